/- The walk of the law on what lies behind the end code. -/
import Derived.Test.YtophlgnmfhoeiaaVk
import Derived.Test.YtophlgnmfhoeiaaDe
import Derived.Test.YtophlgnmfhoeiaaUs
import Derived.Test.YtophlgnmfhoeiaaBs
import Derived.Test.YtophlgnmfhoeiaaSi
namespace Go.Proofs.Ytophlgnmfhoeiaa
open Go.ChangeShapes Go.WideShapes Go.ChangeAt Go.RowKit Go.Joins
set_option linter.unusedVariables false

theorem ns_on {w w' : World} {cap : Nat} {A : Option Addr} {l : List Int} (h : NumsAt w w.heap.size A cap l) (hb : Below w.heap.size w w') : NumsAt w' w'.heap.size A cap l := (h.below hb (Nat.le_refl _)).mono hb.size

theorem ext_take (s : ByteArray) (n : Nat) : (s.extract 0 n).data.toList = s.data.toList.take n := by
  simp [ByteArray.data_extract]

theorem Kn.Ok.uu_le {k : Kn} (h : k.Ok) {s : ByteArray} (he : k.ue s = 0) : k.uu s ≤ 3900 := by
  have hrd : Kn.rd (k.bitsOf s) (8 * s.size + 1) k 0 0 0 = (k.uc s, 0, (k.rdAll s).2.2) := Prod.ext rfl (Prod.ext he rfl)
  have h1 := h.bl_ge (Kn.uc_good h s)
  have h2 := Kn.rd_len0 hrd
  have h3 := Kn.uc_len h s
  have hx : k.uu s = ((k.rdAll s).2.2 + 7) / 8 := rfl
  omega

theorem c_soMany (s : ByteArray) (m : Int) (w : World) (hs : s.size = 1) (h0 : 0 ≤ m) (h1 : m ≤ 49) : Calls Try.prog 53 #[.string s, .int .i64 m] w fun e w' => ∃ T : ByteArray, e = .returned (.string T) ∧ T.size ≤ 49 ∧ Below w.heap.size w w' := by
  go_enter Try.func53, Try.ntmps53
  go_wp2_with fail
  go_loopw [5, 6] (fun t i wr => ∃ (k : Nat) (T : ByteArray), (k : Int) ≤ m ∧ i = .int .i64 k ∧ t = .string T ∧ T.size ≤ k ∧ Below w.heap.size w wr) (fun _ i _ => (m - intOf i).toNat)
  case atStart => exact ⟨0, ByteArray.empty, by omega, rfl, rfl, by simp, by (repeat (first | with_reducible (first | assumption | exact Below.refl _ _ | refine bel_alloc ?_ _ | refine bel_drew ?_ | refine bel_drewN ?_ _ | refine bel_set ?_ (by first | omega | (simp; done) | (simp; omega)) _ | refine bel_trans ?_ (by assumption)) | assumption | refine bel_trans ?_ (by assumption)))⟩
  case round =>
    obtain ⟨k, T, hk, rfl, rfl, hT, hbl⟩ := hrel
    have hT2 : T.size ≤ 49 := by omega
    by_cases hlt : (k : Int) < m
    · go_wp2
      go_roundw
      case rel => exact ⟨k + 1, T ++ s, by omega, by go_num, rfl, by rw [ByteArray.size_append]; omega, by (repeat (first | with_reducible (first | assumption | exact Below.refl _ _ | refine bel_alloc ?_ _ | refine bel_drew ?_ | refine bel_drewN ?_ _ | refine bel_set ?_ (by first | omega | (simp; done) | (simp; omega)) _ | refine bel_trans ?_ (by assumption)) | assumption | refine bel_trans ?_ (by assumption)))⟩
      case measure => simp [intOf]; omega
    · go_wp2
      go_ret
      exact ⟨T, rfl, hT2, by (repeat (first | with_reducible (first | assumption | exact Below.refl _ _ | refine bel_alloc ?_ _ | refine bel_drew ?_ | refine bel_drewN ?_ _ | refine bel_set ?_ (by first | omega | (simp; done) | (simp; omega)) _ | refine bel_trans ?_ (by assumption)) | assumption | refine bel_trans ?_ (by assumption)))⟩

set_option maxHeartbeats 4000000 in
set_option maxRecDepth 100000 in
theorem walk_FnUnpackBehind (A0 : Option Addr) (n0 cap0 : Nat) (A1 : Option Addr) (n1 cap1 : Nat) (w : World) (hc : CodeAt w w.heap.size A0 n0 cap0) (hd : CodeAt w w.heap.size A1 n1 cap1) : Calls Try.prog 9 #[.slice A0 n0 cap0, .slice A1 n1 cap1] w fun e w' => e = .returned (.bool true) ∧ Below w.heap.size w w' := by
  have h1 := hc.1
  have h2 := hc.2.1
  have h3 := hd.1
  have h4 := hd.2.1
  clear hd
  by_cases big : 1048576 < n0
  · unfold maxLen at h2 h4
    go_enter Try.func9, Try.ntmps9
    go_wp2_with fail
    go_ret
    exact ⟨rfl, by (repeat (first | with_reducible (first | assumption | exact Below.refl _ _ | refine bel_alloc ?_ _ | refine bel_drew ?_ | refine bel_drewN ?_ _ | refine bel_set ?_ (by first | omega | (simp; done) | (simp; omega)) _ | refine bel_trans ?_ (by assumption)) | assumption | refine bel_trans ?_ (by assumption)))⟩
  by_cases big1 : 1048576 < n1
  · unfold maxLen at h2 h4
    go_enter Try.func9, Try.ntmps9
    go_wp2_with fail
    go_ret
    exact ⟨rfl, by (repeat (first | with_reducible (first | assumption | exact Below.refl _ _ | refine bel_alloc ?_ _ | refine bel_drew ?_ | refine bel_drewN ?_ _ | refine bel_set ?_ (by first | omega | (simp; done) | (simp; omega)) _ | refine bel_trans ?_ (by assumption)) | assumption | refine bel_trans ?_ (by assumption)))⟩
  clear h1 h2 h3 h4
  have hn1 : n1 ≤ 1048576 := by omega
  have hch : (n1 : Int) % 256 = ((UInt8.ofNat n1).toNat : Int) := by
    rw [UInt8.toNat_ofNat']
    omega
  have hm0 : 0 ≤ (n1 : Int) % 50 := by omega
  have hm1 : (n1 : Int) % 50 ≤ 49 := by omega
  clear big1
  go_enter Try.func9, Try.ntmps9
  go_wp2_with fail
  refine (c_DrawUnpackCodes _ _ _ _ hc).mono ?_
  rintro e w1 ⟨k, A, cp, s, rfl, hw, hl, hs, ho, b1⟩
  have HZ := hid (KB.new ho)
  have c1 := bel_alloc b1 (.cells #[.int .i64 k.o, .int .i64 k.l, .int .i64 k.m, .slice A k.ps.length cp, .int .i64 k.base, .int .i64 k.last] 32)
  clear ho b1 hc
  obtain ⟨p0, p1, p2, p3, p4, p5⟩ := HZ.out.bx.cells6
  have hsm : s.size ≤ maxLen := by unfold maxLen; omega
  by_cases hk : UnpOk k s ∧ k.ue s = 0
  · skip
    obtain ⟨hk, he⟩ := hk
    have huu := Kn.uu_bd hk.1 s
    have hu2 := hk.1.uu_le he
    have hlen := Kn.uc_len hk.1 s
    obtain ⟨v1, ⟨j, hj, v2⟩, v3, v4⟩ := hk.1.short he (t := s.extract 0 (k.uu s - 1)) (ext_take s _)
    obtain ⟨V, hV⟩ : ∃ V, k.uu s = V + 1 := ⟨k.uu s - 1, by omega⟩
    rw [show k.uu s - 1 = V by omega] at v2 v3 v4
    have hbe : ∀ T : ByteArray, k.uc (s.extract 0 (V + 1) ++ T) = k.uc s ∧ k.ue (s.extract 0 (V + 1) ++ T) = 0 ∧ k.uu (s.extract 0 (V + 1) ++ T) = k.uu s := fun T => hk.1.behind he ⟨T.data.toList, by rw [hV, ByteArray.data_append, Array.toList_append, ext_take]⟩
    have eV : ((V + 1 : Nat) : Int) = (V : Int) + 1 := by omega
    have hx1 : (s.extract 0 (V + 1)).size ≤ 3900 := by rw [ByteArray.size_extract]; omega
    have hx0 : (s.extract 0 V).size ≤ 3900 := by rw [ByteArray.size_extract]; omega
    have H1 := hid (show (∀ (v : World) (h : KB w1.heap.size w1.heap.size k A cp v), Calls Try.prog 48 #[.agg #[.int .i64 k.o, .int .i64 k.l, .int .i64 k.m, .slice A k.ps.length cp, .int .i64 k.base, .int .i64 k.last], .string s] v (fun e w' => ∃ A' cap', e = .returned (.tuple #[.slice A' (k.uc s).length cap', .int .i64 0, .int .i64 ((V : Int) + 1)]) ∧ w'.ownsRow v.heap.size 3 1 (.slice A' (k.uc s).length cap') (k.uc s).length ((k.uc s).map iv) ∧ Below v.heap.size v w')) by
      intro v h
      have := c_UnpackCodes_yes k A cp _ v h.ps h.le hw s hk
      rw [he, hV, eV] at this
      exact this)
    have H2 := hid (show (∀ (v : World) (h : KB w1.heap.size w1.heap.size k A cp v), Calls Try.prog 51 #[.agg #[.int .i64 k.o, .int .i64 k.l, .int .i64 k.m, .slice A k.ps.length cp, .int .i64 k.base, .int .i64 k.last], .string s] v (fun e w' => ∃ A' cap', e = .returned (.tuple #[.slice A' (k.uc s).length cap', .int .i64 0, .int .i64 ((V : Int) + 1)]) ∧ w'.ownsRow v.heap.size 3 1 (.slice A' (k.uc s).length cap') (k.uc s).length ((k.uc s).map iv) ∧ Below v.heap.size v w')) by
      intro v h
      refine (c_sUnpackCodes_yes k A cp _ v h.ps h.le hw s hk).mono fun e w' hu => ?_
      unfold UDone at hu
      rw [he, hV, eV] at hu
      exact hu)
    have H6 := hid (show ∀ (v : World) (h : KB w1.heap.size w1.heap.size k A cp v) (T : ByteArray) (hT : T.size ≤ 49), Calls Try.prog 48 #[.agg #[.int .i64 k.o, .int .i64 k.l, .int .i64 k.m, .slice A k.ps.length cp, .int .i64 k.base, .int .i64 k.last], .string (s.extract 0 (V + 1) ++ T)] v (fun e w' => ∃ A' cap', e = .returned (.tuple #[.slice A' (k.uc s).length cap', .int .i64 0, .int .i64 ((V : Int) + 1)]) ∧ w'.ownsRow v.heap.size 3 1 (.slice A' (k.uc s).length cap') (k.uc s).length ((k.uc s).map iv) ∧ Below v.heap.size v w') by
      intro v h T hT
      have := c_UnpackCodes_yes k A cp _ v h.ps h.le hw (s.extract 0 (V + 1) ++ T) ⟨hk.1, by rw [ByteArray.size_append]; omega⟩
      rw [(hbe T).1, (hbe T).2.1, (hbe T).2.2, hV, eV] at this
      exact this)
    have H7 := hid (show ∀ (v : World) (h : KB w1.heap.size w1.heap.size k A cp v), Calls Try.prog 48 #[.agg #[.int .i64 k.o, .int .i64 k.l, .int .i64 k.m, .slice A k.ps.length cp, .int .i64 k.base, .int .i64 k.last], .string (s.extract 0 V)] v (fun e w' => ∃ A' cap', e = .returned (.tuple #[.slice A' ((k.uc s).take j).length cap', .int .i64 1, .int .i64 (V : Int)]) ∧ w'.ownsRow v.heap.size 3 1 (.slice A' ((k.uc s).take j).length cap') ((k.uc s).take j).length (((k.uc s).take j).map iv) ∧ Below v.heap.size v w') by
      intro v h
      have := c_UnpackCodes_yes k A cp _ v h.ps h.le hw (s.extract 0 V) ⟨hk.1, by omega⟩
      rw [v2, v3, v4] at this
      exact this)
    obtain ⟨CT, hCT⟩ : ∃ CT, CT = (k.uc s).take j := ⟨_, rfl⟩
    have hCTl : CT.length < (k.uc s).length := by rw [hCT, List.length_take]; omega
    obtain ⟨CS, hCS⟩ : ∃ CS, CS = k.uc s := ⟨_, rfl⟩
    have HC := hid (show CT = CS.take CT.length by rw [hCT, hCS, List.length_take, Nat.min_eq_left (by omega)])
    rw [← hCT] at H7
    rw [← hCS] at H1 H2 H6 hCTl hlen
    have HI := hid (fun (v : World) (A5 A6 : Option Addr) (c5 c6 : Nat) (h5 : NumsAt v v.heap.size A5 c5 CS) (h6 : NumsAt v v.heap.size A6 c6 CS) => c_soInts A5 A6 c5 c6 CS v.heap.size v.heap.size v h5 h6 (Nat.le_refl _) (Nat.le_refl _) (by omega))
    have HJ := hid (fun (v : World) (A5 A6 : Option Addr) (c5 c6 : Nat) (h5 : NumsAt v v.heap.size A5 c5 CT) (h6 : NumsAt v v.heap.size A6 c6 CT) => c_soInts A5 A6 c5 c6 CT v.heap.size v.heap.size v h5 h6 (Nat.le_refl _) (Nat.le_refl _) (by omega))
    have hVs : V + 1 ≤ s.size := by omega
    have hV0 : (0 : Int) ≤ (V : Int) + 1 := by omega
    have hV1 : (V : Int) + 1 ≤ (s.size : Int) := by omega
    have hV2 : V ≤ s.size := by omega
    have hVb : V ≤ 3900 := by omega
    have ewV : IntKind.i64.wrap (V : Int) = (V : Int) := IntWalk.i64_in _ (by omega)
    clear hk he hw hsm huu hu2 v1 v2 v3 v4 hj hV hbe eV hCT hCS hs
    go_wp2_with fail
    refine (H1.out _ HZ.out).mono ?_
    rintro e w2 ⟨A2, c2x, rfl, ho2, hb2⟩
    replace HZ := hid (HZ.out.on hb2)
    have c2 := bel_trans c1 hb2
    clear p0 p1 p2 p3 p4 p5
    obtain ⟨p0, p1, p2, p3, p4, p5⟩ := HZ.out.bx.cells6
    have HN := hid (own_ints_at ho2)
    clear ho2
    go_wp2_with fail
    refine (H2.out _ HZ.out).mono ?_
    rintro e w3 ⟨A3, c3x, rfl, ho3, hb3⟩
    replace HZ := hid (HZ.out.on hb3)
    have c3 := bel_trans c2 hb3
    clear p0 p1 p2 p3 p4 p5
    obtain ⟨p0, p1, p2, p3, p4, p5⟩ := HZ.out.bx.cells6
    replace HN := hid (ns_on HN.out hb3)
    have HM := hid (own_ints_at ho3)
    clear ho3
    go_wp2_with fail
    refine (HI.out _ A2 A3 c2x c3x HN.out HM.out).mono ?_
    rintro e w4 ⟨rfl, hb4⟩
    replace HZ := hid (HZ.out.on hb4)
    have c4 := bel_trans c3 hb4
    clear p0 p1 p2 p3 p4 p5
    obtain ⟨p0, p1, p2, p3, p4, p5⟩ := HZ.out.bx.cells6
    replace HN := hid (ns_on HN.out hb4)
    replace HM := hid (ns_on HM.out hb4)
    obtain ⟨X, hX⟩ : ∃ X, X = str [UInt8.ofNat n1] := ⟨_, rfl⟩
    have hXs : X.size = 1 := by rw [hX, str_size]; rfl
    have hcv := run_one (P := Try.prog) (w := w4) Try.underlying22 Try.underlying5 Try.underlying9 hch
    rw [← hX] at hcv
    clear hch hX
    go_wp2_with fail
    refine (c_soMany X _ _ hXs hm0 hm1).mono ?_
    rintro e w5 ⟨T, rfl, hT, hb5⟩
    have hbx := bel_trans (bel_alloc (Below.refl _ w4) _) hb5
    replace HZ := hid (HZ.out.on hbx)
    replace HN := hid (ns_on HN.out hbx)
    have c5 := bel_trans c4 hbx
    clear p0 p1 p2 p3 p4 p5 hcv HM
    obtain ⟨p0, p1, p2, p3, p4, p5⟩ := HZ.out.bx.cells6
    have ha1 : ∀ W, (Op.stringOp .add (s.extract 0 (V + 1)) T).run Try.prog W = .ok (.string (s.extract 0 (V + 1) ++ T)) W := fun W => run_string_add W _ _ (by omega) (by omega)
    have hS := HZ.out.bx.cells6t
    go_wp2_with fail
    replace HZ := hid (HZ.out.on (bel_drew (Below.refl w5.heap.size w5)))
    replace c5 := bel_drew c5
    replace HN := hid (ns_on HN.out (bel_drew (Below.refl w5.heap.size w5)))
    refine wp_region_noPanic ?_
    refine wp_region_held_drew (S := (fun v => v.cell? ⟨w1.heap.size, 0, none⟩ = some (.int .i64 k.o) ∧ v.cell? ⟨w1.heap.size, 1, none⟩ = some (.int .i64 k.l) ∧ v.cell? ⟨w1.heap.size, 2, none⟩ = some (.int .i64 k.m) ∧ v.cell? ⟨w1.heap.size, 3, none⟩ = some (.slice A k.ps.length cp) ∧ v.cell? ⟨w1.heap.size, 4, none⟩ = some (.int .i64 k.base) ∧ v.cell? ⟨w1.heap.size, 5, none⟩ = some (.int .i64 k.last) ∧ True)) (by kernel_rfl) (t6_drew hS) (fun hHeld => ?_)
    refine tk 0 ?_
    refine tk 1 ?_
    refine tk 2 ?_
    refine tk 3 ?_
    refine tk 4 ?_
    refine tk 5 ?_
    refine wpAnyH_ready (rs := [6]) (by kernel_rfl) (by simp) ?_
    refine AllReadyH.cons (o := ?or1_6) ?ir1_6 (fun K hK => ?sr1_6) AllReadyH.nil
    case ir1_6 => (simp only [List.getElem?_toArray, List.getElem?_cons_succ, List.getElem?_cons_zero]; rfl)
    (go_simp; (go_at_call 48; refine (H6.out _ HZ.out T hT).mono ?_; rintro e w6 ⟨A6, c6x, rfl, ho6, hb6⟩; replace HZ := hid (HZ.out.on hb6); have c6 := bel_trans c5 hb6; replace HN := hid (ns_on HN.out hb6); have HM := hid (own_ints_at ho6); clear ho6))
    refine hK.out _ _ ?kr1_6 (fun hHeld => ?_)
    case kr1_6 => (try dsimp only); (first | with_reducible assumption | with_reducible exact HZ.out.bx.cells6t | exact t6_bel (by assumption) (by assumption) | assumption | exact t6_alloc (by assumption) _ | exact HZ.out.bx.cells6t)
    clear hK K
    try simp only [Act.put, List.setIfInBounds_toArray, List.set_cons_zero, List.set_cons_succ]
    refine tk 7 ?_
    refine tk 8 ?_
    refine tk 9 ?_
    refine tk 10 ?_
    refine tk 11 ?_
    refine tk 12 ?_
    refine tk 13 ?_
    refine wpAnyH_done (by kernel_rfl) ?_ _
    refine NoPanic.normal ?_
    clear hS p0 p1 p2 p3 p4 p5
    (try clear hHeld)
    obtain ⟨p0, p1, p2, p3, p4, p5⟩ := HZ.out.bx.cells6
    clear ha1 hT
    have hS := HZ.out.bx.cells6t
    go_wp2_with fail
    replace HZ := hid (HZ.out.on (bel_drew (Below.refl w6.heap.size w6)))
    replace c6 := bel_drew c6
    replace HN := hid (ns_on HN.out (bel_drew (Below.refl w6.heap.size w6)))
    replace HM := hid (ns_on HM.out (bel_drew (Below.refl w6.heap.size w6)))
    refine wp_region_noPanic ?_
    refine wp_region_held_drew (S := (fun v => v.cell? ⟨w1.heap.size, 0, none⟩ = some (.int .i64 k.o) ∧ v.cell? ⟨w1.heap.size, 1, none⟩ = some (.int .i64 k.l) ∧ v.cell? ⟨w1.heap.size, 2, none⟩ = some (.int .i64 k.m) ∧ v.cell? ⟨w1.heap.size, 3, none⟩ = some (.slice A k.ps.length cp) ∧ v.cell? ⟨w1.heap.size, 4, none⟩ = some (.int .i64 k.base) ∧ v.cell? ⟨w1.heap.size, 5, none⟩ = some (.int .i64 k.last) ∧ True)) (by kernel_rfl) (t6_drew hS) (fun hHeld => ?_)
    refine tk 0 ?_
    refine tk 1 ?_
    refine tk 2 ?_
    refine tk 3 ?_
    refine tk 4 ?_
    refine wpAnyH_ready (rs := [5]) (by kernel_rfl) (by simp) ?_
    refine AllReadyH.cons (o := ?or2_5) ?ir2_5 (fun K hK => ?sr2_5) AllReadyH.nil
    case ir2_5 => (simp only [List.getElem?_toArray, List.getElem?_cons_succ, List.getElem?_cons_zero]; rfl)
    (go_simp; (go_at_call 48; refine (H7.out _ HZ.out).mono ?_; rintro e w7 ⟨A7, c7x, rfl, ho7, hb7⟩; replace HZ := hid (HZ.out.on hb7); have c7 := bel_trans c6 hb7; replace HN := hid (ns_on HN.out hb7); replace HM := hid (ns_on HM.out hb7); have HF := hid (own_ints_at ho7); clear ho7))
    refine hK.out _ _ ?kr2_5 (fun hHeld => ?_)
    case kr2_5 => (try dsimp only); (first | with_reducible assumption | with_reducible exact HZ.out.bx.cells6t | exact t6_bel (by assumption) (by assumption) | assumption | exact t6_alloc (by assumption) _ | exact HZ.out.bx.cells6t)
    clear hK K
    try simp only [Act.put, List.setIfInBounds_toArray, List.set_cons_zero, List.set_cons_succ]
    refine tk 6 ?_
    refine tk 7 ?_
    refine tk 8 ?_
    refine tk 9 ?_
    refine tk 10 ?_
    refine tk 11 ?_
    refine tk 12 ?_
    refine wpAnyH_done (by kernel_rfl) ?_ _
    refine NoPanic.normal ?_
    clear hS p0 p1 p2 p3 p4 p5
    (try clear hHeld)
    obtain ⟨p0, p1, p2, p3, p4, p5⟩ := HZ.out.bx.cells6
    obtain ⟨b, off, rfl, hh⟩ := HN.out.2.2.2 (by omega)
    clear hh
    have hcap := HN.out.1
    have hcap2 := HN.out.2.1
    go_wp2_with fail
    refine (HI.out _ A6 _ c6x _ HM.out HN.out).mono ?_
    rintro e w8 ⟨rfl, hb8⟩
    replace HZ := hid (HZ.out.on hb8)
    have c8 := bel_trans c7 hb8
    clear p0 p1 p2 p3 p4 p5
    obtain ⟨p0, p1, p2, p3, p4, p5⟩ := HZ.out.bx.cells6
    replace HN := hid (ns_on HN.out hb8)
    replace HF := hid (ns_on HF.out hb8)
    have HQ := hid (show NumsAt w8 w8.heap.size (some ⟨b, off, none⟩) c2x CT from HC.out ▸ HN.out.cut CT.length)
    go_wp2_with fail
    refine (HJ.out _ A7 _ c7x _ HF.out HQ.out).mono ?_
    rintro e w9 ⟨rfl, hb9⟩
    replace HZ := hid (HZ.out.on hb9)
    have c9 := bel_trans c8 hb9
    clear p0 p1 p2 p3 p4 p5
    obtain ⟨p0, p1, p2, p3, p4, p5⟩ := HZ.out.bx.cells6
    go_wp2
    go_ret
    exact ⟨rfl, c9⟩
  · skip
    obtain ⟨R, z, u, hz0, hl0, H1, H2⟩ : ∃ (R : List Int) (z u : Int), z ≠ 0 ∧ R.length ≤ 1048576 ∧ (∀ (v : World) (h : KB w1.heap.size w1.heap.size k A cp v), Calls Try.prog 48 #[.agg #[.int .i64 k.o, .int .i64 k.l, .int .i64 k.m, .slice A k.ps.length cp, .int .i64 k.base, .int .i64 k.last], .string s] v (fun e w' => ∃ A' cap', e = .returned (.tuple #[.slice A' R.length cap', .int .i64 z, .int .i64 u]) ∧ w'.ownsRow v.heap.size 3 1 (.slice A' R.length cap') R.length (R.map iv) ∧ Below v.heap.size v w')) ∧ (∀ (v : World) (h : KB w1.heap.size w1.heap.size k A cp v), Calls Try.prog 51 #[.agg #[.int .i64 k.o, .int .i64 k.l, .int .i64 k.m, .slice A k.ps.length cp, .int .i64 k.base, .int .i64 k.last], .string s] v (fun e w' => ∃ A' cap', e = .returned (.tuple #[.slice A' R.length cap', .int .i64 z, .int .i64 u]) ∧ w'.ownsRow v.heap.size 3 1 (.slice A' R.length cap') R.length (R.map iv) ∧ Below v.heap.size v w')) := by
      by_cases hu : UnpOk k s
      · exact ⟨k.uc s, k.ue s, (k.uu s : Nat), fun h => hk ⟨hu, h⟩, by have := Kn.uc_len hu.1 s; omega, fun v h => c_UnpackCodes_yes k A cp _ v h.ps h.le hw s hu, fun v h => c_sUnpackCodes_yes k A cp _ v h.ps h.le hw s hu⟩
      · exact ⟨[], 4, 0, by decide, by simp, fun v h => (c_UnpackCodes_no k A cp _ v h.ps h.le hw s hsm hu).mono fun e w' ⟨q1, q2⟩ => ⟨none, 0, q1, own_ints_nil _ _ _, q2⟩, fun v h => c_sUnpackCodes_no k A cp _ v h.ps h.le hw s hsm hu⟩
    have ez : (z != 0) = true := ne_yes (by omega)
    have HI := hid (fun (v : World) (A5 A6 : Option Addr) (c5 c6 : Nat) (h5 : NumsAt v v.heap.size A5 c5 R) (h6 : NumsAt v v.heap.size A6 c6 R) => c_soInts A5 A6 c5 c6 R v.heap.size v.heap.size v h5 h6 (Nat.le_refl _) (Nat.le_refl _) hl0)
    replace H1 := hid H1
    replace H2 := hid H2
    clear hk hw hsm hz0 hl0 hch
    go_wp2_with fail
    refine (H1.out _ HZ.out).mono ?_
    rintro e w2 ⟨A2, c2x, rfl, ho2, hb2⟩
    replace HZ := hid (HZ.out.on hb2)
    have c2 := bel_trans c1 hb2
    clear p0 p1 p2 p3 p4 p5
    obtain ⟨p0, p1, p2, p3, p4, p5⟩ := HZ.out.bx.cells6
    have HN := hid (own_ints_at ho2)
    clear ho2
    go_wp2_with fail
    refine (H2.out _ HZ.out).mono ?_
    rintro e w3 ⟨A3, c3x, rfl, ho3, hb3⟩
    replace HZ := hid (HZ.out.on hb3)
    have c3 := bel_trans c2 hb3
    clear p0 p1 p2 p3 p4 p5
    obtain ⟨p0, p1, p2, p3, p4, p5⟩ := HZ.out.bx.cells6
    replace HN := hid (ns_on HN.out hb3)
    have HM := hid (own_ints_at ho3)
    clear ho3
    go_wp2_with fail
    refine (HI.out _ A2 A3 c2x c3x HN.out HM.out).mono ?_
    rintro e w4 ⟨rfl, hb4⟩
    replace HZ := hid (HZ.out.on hb4)
    have c4 := bel_trans c3 hb4
    clear p0 p1 p2 p3 p4 p5
    obtain ⟨p0, p1, p2, p3, p4, p5⟩ := HZ.out.bx.cells6
    replace HN := hid (ns_on HN.out hb4)
    replace HM := hid (ns_on HM.out hb4)
    go_wp2_with fail
    refine (HI.out _ A2 A3 c2x c3x HN.out HM.out).mono ?_
    rintro e w5 ⟨rfl, hb5⟩
    replace HZ := hid (HZ.out.on hb5)
    have c5 := bel_trans c4 hb5
    clear p0 p1 p2 p3 p4 p5
    obtain ⟨p0, p1, p2, p3, p4, p5⟩ := HZ.out.bx.cells6
    go_wp2
    go_ret
    exact ⟨rfl, c5⟩
end Go.Proofs.Ytophlgnmfhoeiaa
