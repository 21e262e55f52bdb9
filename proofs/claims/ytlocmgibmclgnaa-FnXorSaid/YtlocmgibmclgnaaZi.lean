/- The walk of the law on XorTexts. -/
import Derived.Test.YtlocmgibmclgnaaZh
namespace Go.Proofs.Ytlocmgibmclgnaa
open Go.ChangeShapes Go.WideShapes Go.ChangeAt Go.RowKit Go.Joins
set_option linter.unusedVariables false
set_option linter.unusedSimpArgs false

theorem run_oneC {P : Program} {w : World} {g : Nat} {e src dst : TypeId} (hs : P.underlying src = some (.slice e)) (he : P.underlying e = some (.int .u8)) (hd : P.underlying dst = some .string) {c : UInt8} (hc : w.cell? ⟨g, 0, none⟩ = some (.int .u8 (c.toNat : Int))) :
    (convert src dst (.slice (some ⟨g, 0, none⟩) 1 1)).run P w = .ok (.string (str [c])) w := by
  refine run_convert_bytes_back (l := [c]) _ src dst e ⟨g, 0, none⟩ 1 hs he hd ?_
  intro j hj
  have : j = 0 := by simpa using hj
  subst this
  have e0 : ((⟨g, 0, none⟩ : Addr).add 0) = ⟨g, 0, none⟩ := by simp [Addr.add]
  rw [e0, hc]
  rfl

theorem Fresh.learn {K : Act → World → Prop} {a : Act} {X : World} {cs : Array Value} {t : TypeId} (h : Blk (X.alloc (.cells cs t)) X.heap.size t cs → K a (X.alloc (.cells cs t))) : K a (X.alloc (.cells cs t)) := h (Blk.new X t cs)

theorem Fresh.learnd {K : Act → World → Prop} {a : Act} {X : World} {cs : Array Value} {t : TypeId} (h : Blk (X.alloc (.cells cs t)).drew X.heap.size t cs → K a (X.alloc (.cells cs t)).drew) : K a (X.alloc (.cells cs t)).drew := h (Blk.new X t cs).drew

theorem drop_txt {P : Program} {e t : TypeId} (ht : P.underlying t = some (.slice e)) (hz : (P.info? e).map (fun i => (i.zero, i.size, i.bytes)) = some (some (.string ByteArray.empty), 1, 16)) (g K c : Nat) (hK : 1 ≤ K) (hc : K ≤ c) (W : World) :
    (Instr.slice t (.slice (some ⟨g, 0, none⟩) K c) (some (.int .i64 1)) none none).run P W = .ok (.slice (some ⟨g, if c = 1 then 0 else 1, none⟩) (K - 1) (c - 1)) W := by
  have he : P.elem t = e := by simp [Program.elem, ht]
  have hsz : ∀ wx, (sizeOf (P.elem t)).run P wx = .ok 1 wx := by
    intro wx
    obtain ⟨i0, hi, hz0, hz1, hz2⟩ := info_parts hz
    rw [he]
    simp [sizeOf, typeInfo, hi, hz1]
  rw [run_slice_l W t _ K c (by rw [he]; exact ht) .i64 1 (by omega) (by omega), hsz]
  simp only [sliced, Result.andThen]
  by_cases h : c = 1 <;> simp [h, Addr.add]

set_option maxHeartbeats 4000000 in
set_option maxRecDepth 100000 in
theorem walk_FnXor (A' : Option Addr) (n cap : Nat) (w : World) (hc : CodeAt w w.heap.size A' n cap) : Calls Try.prog 3 #[.slice A' n cap] w fun e w' => e = .returned (.bool true) ∧ Below w.heap.size w w' := by
  have hbig := big_code hc
  by_cases big : 1048576 < n
  · go_enter Try.func3, Try.ntmps3
    go_wp2_with fail
    go_ret
    exact ⟨rfl, by (repeat (first | with_reducible (first | assumption | exact Below.refl _ _ | refine bel_alloc ?_ _ | refine bel_drew ?_ | refine bel_drewN ?_ _ | refine bel_set ?_ (by first | omega | (simp; done) | (simp; omega)) _ | refine bel_trans ?_ (by assumption)) | assumption | refine bel_trans ?_ (by assumption)))⟩
  · go_enter Try.func3, Try.ntmps3
    go_wp2_with fail
    refine (c_DrawXorTexts _ _ _ _ hc).mono ?_
    rintro e w1 ⟨v1, l, rfl, hown1, hl5, hl9, hb1⟩
    obtain ⟨A, c, rfl, hat1, _, _⟩ := own_strs hown1
    clear hown1 hc
    have hls : ∀ s ∈ l, s.size ≤ 1048576 := fun s hs => by have := hl9 s hs; omega
    obtain ⟨N, hN⟩ : ∃ N, N = l.length := ⟨_, rfl⟩
    have HN := hid hN
    obtain ⟨Z, hZ⟩ : ∃ Z, Z = str (xall l) := ⟨_, rfl⟩
    have hZs : Z.size = mxL l := by rw [hZ, str_size, xall_mx]
    have hmx := mxL_le hl9
    have H1 := hid (fun (v : World) (h : StrsAt v w1.heap.size A c l) (hL : w1.heap.size ≤ v.heap.size) => c_XorTexts A c l w1.heap.size v h hL hls)
    have H2 := hid (fun (v : World) (h : StrsAt v w1.heap.size A c l) (hL : w1.heap.size ≤ v.heap.size) => c_sXorTexts A c l w1.heap.size v h hL hls)
    rw [← hN, ← hZ] at H1 H2
    rw [← hN] at hl5
    have HA1 := hid hat1
    rw [← hN]
    have HX := hid (fun (A : Option Addr) (cap L : Nat) (T : List ByteArray) (v : World) (h : StrsAt v L A cap T) (hL : L ≤ v.heap.size) (hT : ∀ s ∈ T, s.size ≤ 1048576) => c_XorTexts A cap T L v h hL hT)
    have HZ := hid hZ
    have HZs := hid hZs
    have hZ10 : Z.size ≤ 9 := by omega
    have HLS := hid hls
    have HL9 := hid hl9
    clear hN hZ hZs hat1 hls hl9
    go_wp2_with fail
    refine (H1.out _ HA1.out (Nat.le_refl _)).mono ?_
    rintro e w2 ⟨rfl, hb2⟩
    go_wp2_with fail
    refine (H2.out _ (HA1.out.below hb2 (Nat.le_refl _)) hb2.size).mono ?_
    rintro e w3 ⟨rfl, hb3⟩
    have k3 := hb2.trans (hb3.mono hb2.size)
    have s3 := k3.size
    have HA3 := hid (HA1.out.below k3 (Nat.le_refl _))
    have B3 := hid (bel_trans hb1 k3)
    clear hb1 hb2 hb3
    have HO := hid (own_one w3 w3.heap.size 9 Z (Nat.le_refl _))
    go_wp2_with fail
    go_loopw [5, 6, 7] (fun t m i wr => ∃ (k : Nat), k ≤ N ∧ i = .int .i64 ((k : Int) - 1) ∧ m = .int .i64 ((mxL (l.drop k) : Nat) : Int) ∧ wr.ownsRow w3.heap.size 9 1 t (1 + (N - k)) ((Z :: (l.drop k).reverse).map sv) ∧ Below w3.heap.size w3 wr) (fun _ _ i _ => (intOf i + 1).toNat)
    case atStart => exact ⟨N, Nat.le_refl _, rfl, by rw [List.drop_of_length_le (by have := HN.out; omega)]; rfl, by rw [List.drop_of_length_le (by have := HN.out; omega), show 1 + (N - N) = 1 by omega]; exact HO.out, by (repeat (first | with_reducible (first | assumption | exact Below.refl _ _ | refine bel_alloc ?_ _ | refine bel_drew ?_ | refine bel_drewN ?_ _ | refine bel_set ?_ (by first | omega | (simp; done) | (simp; omega)) _ | refine bel_trans ?_ (by assumption)) | assumption | refine bel_trans ?_ (by assumption)))⟩
    case round =>
      obtain ⟨k, hk, rfl, rfl, hown, hbl⟩ := hrel
      have hszr := hbl.size
      rcases Nat.eq_zero_or_pos k with hk0 | hkp
      · subst hk0
        obtain ⟨T, hT⟩ : ∃ T, T = Z :: l.reverse := ⟨_, rfl⟩
        rw [List.drop_zero, ← hT] at hown
        obtain ⟨A2, c2, rfl, hat2, hK2, _⟩ := own_strs hown
        have hTl : T.length = N + 1 := by rw [hT]; simp; exact HN.out.symm
        have hc2 := hat2.1
        have hc2m := hat2.2.1
        unfold maxLen at hc2m
        obtain ⟨g, rfl⟩ : ∃ g, A2 = some ⟨g, 0, none⟩ := by
          rcases ‹A2 = none ∨ _› with h | ⟨g, h, _⟩
          · have := hat2.2.2.1 h; omega
          · exact ⟨g, h⟩
        obtain ⟨K, hK⟩ : ∃ K, K = T.length := ⟨_, rfl⟩
        have hKN : K = N + 1 := by omega
        have hTs : ∀ s ∈ T, s.size ≤ 1048576 := fun s hs => by
          rw [hT] at hs
          rcases List.mem_cons.1 hs with h | h
          · subst h; omega
          · exact HLS.out s (List.mem_reverse.1 h)
        have hRs : ∀ s ∈ l.reverse, s.size ≤ 1048576 := fun s hs => HLS.out s (List.mem_reverse.1 hs)
        obtain ⟨M, hM⟩ : ∃ M, M = mxL l := ⟨_, rfl⟩
        have hM9 : M ≤ 9 := by omega
        have hZM : ((Z.size : Int) == (M : Int)) = true := eq_yes (by have := HZs.out; omega)
        obtain ⟨Y, hY⟩ : ∃ Y, Y = sm 0 M := ⟨_, rfl⟩
        have hXT : str (xall T) = Y := by rw [hT, HZ.out, xall_zero, hY, hM]; rfl
        have HT := hid (show ∀ v, Below wr.heap.size wr v → Calls Try.prog 15 #[.slice (some ⟨g, 0, none⟩) K c2] v fun e w' => e = .returned (.string Y) ∧ Below v.heap.size v w' from fun v hv => by
          have := HX.out (some ⟨g, 0, none⟩) c2 wr.heap.size T v (hat2.below hv (Nat.le_refl _)) hv.size hTs
          rw [hXT, ← hK] at this; exact this)
        have hc0 : ∀ (i : Nat) (x : ByteArray), T[i]? = some x → wr.cell? ⟨g, i, none⟩ = some (.string x) := fun i x hi => by
          obtain ⟨b, o, e1, _, hc⟩ := hat2.2.2.2 (by omega)
          simp only [Option.some.injEq, Addr.mk.injEq, and_true] at e1
          obtain ⟨rfl, rfl⟩ := e1
          have := hc i x hi
          rw [Nat.zero_add] at this; exact this
        have hgl : g < wr.heap.size := World.block_lt_of_cell? _ _ (hc0 0 Z (by rw [hT]; rfl))
        have hatR : StrsAt wr wr.heap.size (some ⟨g, if c2 = 1 then 0 else 1, none⟩) (c2 - 1) l.reverse := by
          refine ⟨by rw [List.length_reverse, ← HN.out]; omega, by unfold maxLen; omega, fun h => (by cases h), fun h => ⟨g, 1, ?_, hgl, fun i x hi => ?_⟩⟩
          · rw [List.length_reverse, ← HN.out] at h
            rw [if_neg (by omega)]
          · have := hc0 (i + 1) x (by rw [hT]; simpa using hi)
            rw [Nat.add_comm 1 i]; exact this
        have HR := hid (show ∀ v, Below wr.heap.size wr v → Calls Try.prog 15 #[.slice (some ⟨g, if c2 = 1 then 0 else 1, none⟩) (K - 1) (c2 - 1)] v fun e w' => e = .returned (.string Z) ∧ Below v.heap.size v w' from fun v hv => by
          have := HX.out (some ⟨g, if c2 = 1 then 0 else 1, none⟩) (c2 - 1) wr.heap.size l.reverse v (hatR.below hv (Nat.le_refl _)) hv.size hRs
          rw [xall_rev, ← HZ.out, List.length_reverse, ← HN.out, show N = K - 1 by omega] at this; exact this)
        have H1Z := hid (show ∀ v g2, StrsAt v v.heap.size (some ⟨g2, 0, none⟩) 1 [Z] → Calls Try.prog 15 #[.slice (some ⟨g2, 0, none⟩) 1 1] v fun e w' => e = .returned (.string Z) ∧ Below v.heap.size v w' from fun v g2 hv => by
          have := HX.out (some ⟨g2, 0, none⟩) 1 v.heap.size [Z] v hv (Nat.le_refl _) (fun s hs => by simp at hs; subst hs; omega)
          rw [show xall [Z] = xall l by rw [HZ.out, xall_one], ← HZ.out] at this; exact this)
        have HSM := hid (show ∀ v, Calls Try.prog 17 #[.string (str [0]), .int .i64 (M : Int)] v fun e w' => e = .returned (.string Y) ∧ Below v.heap.size v w' from fun v => by
          rw [hY]; exact c_soManyC 0 M v (by omega))
        have hsl := fun W => drop_txt (P := Try.prog) Try.underlying23 Try.info_txt g K c2 (by omega) (by omega) W
        have hS1 : wr.cell? ⟨g, 0, none⟩ = some (.string Z) ∧ Below wr.heap.size wr wr := ⟨hc0 0 Z (by rw [hT]; rfl), Below.refl _ _⟩
        have HBW := hid (bel_trans B3.out (hbl))
        rw [List.drop_zero, ← hM, ← hK]
        clear hown hT hTl hc2 hc2m hat2 hK2 hK hTs hRs hM hY hXT hc0 hatR hKN
        go_wp2_with fail
        refine wp_region_noPanic ?_
        refine wp_region_held_drew (S := (fun v => v.cell? ⟨g, 0, none⟩ = some (.string Z) ∧ Below wr.heap.size wr v)) (by kernel_rfl) (s1_drew hS1) (fun hHeld => ?_)
        refine tk 0 ?_
        refine tk 4 ?_
        refine wpAnyH_ready (rs := [1, 2]) (by kernel_rfl) (by simp) ?_
        refine AllReadyH.cons (o := ?or1_1) ?ir1_1 (fun K hK => ?sr1_1) (AllReadyH.cons (o := ?or1_2) ?ir1_2 (fun K hK => ?sr1_2) AllReadyH.nil)
        case ir1_1 => (simp only [List.getElem?_toArray, List.getElem?_cons_succ, List.getElem?_cons_zero]; rfl)
        case ir1_2 => (simp only [List.getElem?_toArray, List.getElem?_cons_succ, List.getElem?_cons_zero]; rfl)
        case' sr1_1 =>
          (go_simp; (go_at_call 15; refine (HT.out _ hHeld.2).mono ?_; rintro e wK ⟨rfl, hbK⟩; (try have hN := hN.on hbK)))
          refine hK.out _ _ ?kr1_1 (fun hHeld => ?_)
          case kr1_1 => (try dsimp only); (first | with_reducible assumption | exact s1_bel (by assumption) (by assumption) | assumption | exact s1_alloc (by assumption) _)
          clear hK K
          try simp only [Act.put, List.setIfInBounds_toArray, List.set_cons_zero, List.set_cons_succ]
          refine wpAnyH_ready (rs := [2]) (by kernel_rfl) (by simp) ?_
          refine AllReadyH.cons (o := ?or1b1_2) ?ir1b1_2 (fun K hK => ?sr1b1_2) AllReadyH.nil
          case ir1b1_2 => (simp only [List.getElem?_toArray, List.getElem?_cons_succ, List.getElem?_cons_zero]; rfl)
          ((go_simp; first | refine Fresh.learn (fun hN => ?_) | refine Fresh.learnd (fun hN => ?_)))
          refine hK.out _ _ ?kr1b1_2 (fun hHeld => ?_)
          case kr1b1_2 => (try dsimp only); (first | with_reducible assumption | exact s1_bel (by assumption) (by assumption) | assumption | exact s1_alloc (by assumption) _)
          clear hK K
          try simp only [Act.put, List.setIfInBounds_toArray, List.set_cons_zero, List.set_cons_succ]
          refine wpAnyH_ready (rs := [3]) (by kernel_rfl) (by simp) ?_
          refine AllReadyH.cons (o := ?or1b1_3) ?ir1b1_3 (fun K hK => ?sr1b1_3) AllReadyH.nil
          case ir1b1_3 => (simp only [List.getElem?_toArray, List.getElem?_cons_succ, List.getElem?_cons_zero]; rfl)
          ((have hcv := run_oneC Try.underlying22 Try.underlying5 Try.underlying9 (c := 0) (hN.cell 0); go_simp))
          refine hK.out _ _ ?kr1b1_3 (fun hHeld => ?_)
          case kr1b1_3 => (try dsimp only); (first | with_reducible assumption | exact s1_bel (by assumption) (by assumption) | assumption | exact s1_alloc (by assumption) _)
          clear hK K
          try simp only [Act.put, List.setIfInBounds_toArray, List.set_cons_zero, List.set_cons_succ]
          refine wpAnyH_ready (rs := [5]) (by kernel_rfl) (by simp) ?_
          refine AllReadyH.cons (o := ?or1b1_5) ?ir1b1_5 (fun K hK => ?sr1b1_5) AllReadyH.nil
          case ir1b1_5 => (simp only [List.getElem?_toArray, List.getElem?_cons_succ, List.getElem?_cons_zero]; rfl)
          (go_simp; (go_at_call 17; refine (HSM.out _).mono ?_; rintro e wK ⟨rfl, hbK⟩))
          refine hK.out _ _ ?kr1b1_5 (fun hHeld => ?_)
          case kr1b1_5 => (try dsimp only); (first | with_reducible assumption | exact s1_bel (by assumption) (by assumption) | assumption | exact s1_alloc (by assumption) _)
          clear hK K
          try simp only [Act.put, List.setIfInBounds_toArray, List.set_cons_zero, List.set_cons_succ]
          refine tk 6 ?_
          refine tk 7 ?_
          refine tk 8 ?_
          refine tk 9 ?_
          refine tk 11 ?_
          refine wpAnyH_ready (rs := [10]) (by kernel_rfl) (by simp) ?_
          refine AllReadyH.cons (o := ?or1b1_10) ?ir1b1_10 (fun K hK => ?sr1b1_10) AllReadyH.nil
          case ir1b1_10 => (simp only [List.getElem?_toArray, List.getElem?_cons_succ, List.getElem?_cons_zero]; rfl)
          (go_simp; (go_at_call 15; refine (HR.out _ hHeld.2).mono ?_; rintro e wK ⟨rfl, hbK⟩))
          refine hK.out _ _ ?kr1b1_10 (fun hHeld => ?_)
          case kr1b1_10 => (try dsimp only); (first | with_reducible assumption | exact s1_bel (by assumption) (by assumption) | assumption | exact s1_alloc (by assumption) _)
          clear hK K
          try simp only [Act.put, List.setIfInBounds_toArray, List.set_cons_zero, List.set_cons_succ]
          refine tk 12 ?_
          refine tk 13 ?_
          refine tk 14 ?_
          refine tk 15 ?_
          refine tk 16 ?_
          refine tk 17 ?_
          refine tk 18 ?_
          refine tk 19 ?_
          refine tk 20 ?_
          refine tk 21 ?_
          refine tk 24 ?_
          refine wpAnyH_ready (rs := [22]) (by kernel_rfl) (by simp) ?_
          refine AllReadyH.cons (o := ?or1b1_22) ?ir1b1_22 (fun K hK => ?sr1b1_22) AllReadyH.nil
          case ir1b1_22 => (simp only [List.getElem?_toArray, List.getElem?_cons_succ, List.getElem?_cons_zero]; rfl)
          ((go_simp))
          refine hK.out _ _ ?kr1b1_22 (fun hHeld => ?_)
          case kr1b1_22 => (try dsimp only); (first | with_reducible assumption | exact s1_bel (by assumption) (by assumption) | assumption | exact s1_alloc (by assumption) _)
          clear hK K
          try simp only [Act.put, List.setIfInBounds_toArray, List.set_cons_zero, List.set_cons_succ]
          refine wpAnyH_ready (rs := [23]) (by kernel_rfl) (by simp) ?_
          refine AllReadyH.cons (o := ?or1b1_23) ?ir1b1_23 (fun K hK => ?sr1b1_23) AllReadyH.nil
          case ir1b1_23 => (simp only [List.getElem?_toArray, List.getElem?_cons_succ, List.getElem?_cons_zero]; rfl)
          (go_simp; (go_at_call 15; refine (H1Z.out _ _ (own_strs_at (own_one _ _ _ _ (Nat.le_refl _)))).mono ?_; rintro e wK ⟨rfl, hbK⟩))
          refine hK.out _ _ ?kr1b1_23 (fun hHeld => ?_)
          case kr1b1_23 => (try dsimp only); (first | with_reducible assumption | exact s1_bel (by assumption) (by assumption) | assumption | exact s1_alloc (by assumption) _)
          clear hK K
          try simp only [Act.put, List.setIfInBounds_toArray, List.set_cons_zero, List.set_cons_succ]
          refine tk 25 ?_
          refine tk 26 ?_
          refine tk 27 ?_
          refine wpAnyH_done (by kernel_rfl) ?_ _
          refine NoPanic.normal ?_
        case' sr1_2 =>
          ((go_simp; first | refine Fresh.learn (fun hN => ?_) | refine Fresh.learnd (fun hN => ?_)))
          refine hK.out _ _ ?kr1_2 (fun hHeld => ?_)
          case kr1_2 => (try dsimp only); (first | with_reducible assumption | exact s1_bel (by assumption) (by assumption) | assumption | exact s1_alloc (by assumption) _)
          clear hK K
          try simp only [Act.put, List.setIfInBounds_toArray, List.set_cons_zero, List.set_cons_succ]
          refine wpAnyH_ready (rs := [1, 3]) (by kernel_rfl) (by simp) ?_
          refine AllReadyH.cons (o := ?or1b2_1) ?ir1b2_1 (fun K hK => ?sr1b2_1) (AllReadyH.cons (o := ?or1b2_3) ?ir1b2_3 (fun K hK => ?sr1b2_3) AllReadyH.nil)
          case ir1b2_1 => (simp only [List.getElem?_toArray, List.getElem?_cons_succ, List.getElem?_cons_zero]; rfl)
          case ir1b2_3 => (simp only [List.getElem?_toArray, List.getElem?_cons_succ, List.getElem?_cons_zero]; rfl)
          case' sr1b2_1 =>
            (go_simp; (go_at_call 15; refine (HT.out _ hHeld.2).mono ?_; rintro e wK ⟨rfl, hbK⟩; (try have hN := hN.on hbK)))
            refine hK.out _ _ ?kr1b2_1 (fun hHeld => ?_)
            case kr1b2_1 => (try dsimp only); (first | with_reducible assumption | exact s1_bel (by assumption) (by assumption) | assumption | exact s1_alloc (by assumption) _)
            clear hK K
            try simp only [Act.put, List.setIfInBounds_toArray, List.set_cons_zero, List.set_cons_succ]
            refine wpAnyH_ready (rs := [3]) (by kernel_rfl) (by simp) ?_
            refine AllReadyH.cons (o := ?or1b2b3_3) ?ir1b2b3_3 (fun K hK => ?sr1b2b3_3) AllReadyH.nil
            case ir1b2b3_3 => (simp only [List.getElem?_toArray, List.getElem?_cons_succ, List.getElem?_cons_zero]; rfl)
            ((have hcv := run_oneC Try.underlying22 Try.underlying5 Try.underlying9 (c := 0) (hN.cell 0); go_simp))
            refine hK.out _ _ ?kr1b2b3_3 (fun hHeld => ?_)
            case kr1b2b3_3 => (try dsimp only); (first | with_reducible assumption | exact s1_bel (by assumption) (by assumption) | assumption | exact s1_alloc (by assumption) _)
            clear hK K
            try simp only [Act.put, List.setIfInBounds_toArray, List.set_cons_zero, List.set_cons_succ]
            refine wpAnyH_ready (rs := [5]) (by kernel_rfl) (by simp) ?_
            refine AllReadyH.cons (o := ?or1b2b3_5) ?ir1b2b3_5 (fun K hK => ?sr1b2b3_5) AllReadyH.nil
            case ir1b2b3_5 => (simp only [List.getElem?_toArray, List.getElem?_cons_succ, List.getElem?_cons_zero]; rfl)
            (go_simp; (go_at_call 17; refine (HSM.out _).mono ?_; rintro e wK ⟨rfl, hbK⟩))
            refine hK.out _ _ ?kr1b2b3_5 (fun hHeld => ?_)
            case kr1b2b3_5 => (try dsimp only); (first | with_reducible assumption | exact s1_bel (by assumption) (by assumption) | assumption | exact s1_alloc (by assumption) _)
            clear hK K
            try simp only [Act.put, List.setIfInBounds_toArray, List.set_cons_zero, List.set_cons_succ]
            refine tk 6 ?_
            refine tk 7 ?_
            refine tk 8 ?_
            refine tk 9 ?_
            refine tk 11 ?_
            refine wpAnyH_ready (rs := [10]) (by kernel_rfl) (by simp) ?_
            refine AllReadyH.cons (o := ?or1b2b3_10) ?ir1b2b3_10 (fun K hK => ?sr1b2b3_10) AllReadyH.nil
            case ir1b2b3_10 => (simp only [List.getElem?_toArray, List.getElem?_cons_succ, List.getElem?_cons_zero]; rfl)
            (go_simp; (go_at_call 15; refine (HR.out _ hHeld.2).mono ?_; rintro e wK ⟨rfl, hbK⟩))
            refine hK.out _ _ ?kr1b2b3_10 (fun hHeld => ?_)
            case kr1b2b3_10 => (try dsimp only); (first | with_reducible assumption | exact s1_bel (by assumption) (by assumption) | assumption | exact s1_alloc (by assumption) _)
            clear hK K
            try simp only [Act.put, List.setIfInBounds_toArray, List.set_cons_zero, List.set_cons_succ]
            refine tk 12 ?_
            refine tk 13 ?_
            refine tk 14 ?_
            refine tk 15 ?_
            refine tk 16 ?_
            refine tk 17 ?_
            refine tk 18 ?_
            refine tk 19 ?_
            refine tk 20 ?_
            refine tk 21 ?_
            refine tk 24 ?_
            refine wpAnyH_ready (rs := [22]) (by kernel_rfl) (by simp) ?_
            refine AllReadyH.cons (o := ?or1b2b3_22) ?ir1b2b3_22 (fun K hK => ?sr1b2b3_22) AllReadyH.nil
            case ir1b2b3_22 => (simp only [List.getElem?_toArray, List.getElem?_cons_succ, List.getElem?_cons_zero]; rfl)
            ((go_simp))
            refine hK.out _ _ ?kr1b2b3_22 (fun hHeld => ?_)
            case kr1b2b3_22 => (try dsimp only); (first | with_reducible assumption | exact s1_bel (by assumption) (by assumption) | assumption | exact s1_alloc (by assumption) _)
            clear hK K
            try simp only [Act.put, List.setIfInBounds_toArray, List.set_cons_zero, List.set_cons_succ]
            refine wpAnyH_ready (rs := [23]) (by kernel_rfl) (by simp) ?_
            refine AllReadyH.cons (o := ?or1b2b3_23) ?ir1b2b3_23 (fun K hK => ?sr1b2b3_23) AllReadyH.nil
            case ir1b2b3_23 => (simp only [List.getElem?_toArray, List.getElem?_cons_succ, List.getElem?_cons_zero]; rfl)
            (go_simp; (go_at_call 15; refine (H1Z.out _ _ (own_strs_at (own_one _ _ _ _ (Nat.le_refl _)))).mono ?_; rintro e wK ⟨rfl, hbK⟩))
            refine hK.out _ _ ?kr1b2b3_23 (fun hHeld => ?_)
            case kr1b2b3_23 => (try dsimp only); (first | with_reducible assumption | exact s1_bel (by assumption) (by assumption) | assumption | exact s1_alloc (by assumption) _)
            clear hK K
            try simp only [Act.put, List.setIfInBounds_toArray, List.set_cons_zero, List.set_cons_succ]
            refine tk 25 ?_
            refine tk 26 ?_
            refine tk 27 ?_
            refine wpAnyH_done (by kernel_rfl) ?_ _
            refine NoPanic.normal ?_
          case' sr1b2_3 =>
            ((have hcv := run_oneC Try.underlying22 Try.underlying5 Try.underlying9 (c := 0) (hN.cell 0); go_simp))
            refine hK.out _ _ ?kr1b2_3 (fun hHeld => ?_)
            case kr1b2_3 => (try dsimp only); (first | with_reducible assumption | exact s1_bel (by assumption) (by assumption) | assumption | exact s1_alloc (by assumption) _)
            clear hK K
            try simp only [Act.put, List.setIfInBounds_toArray, List.set_cons_zero, List.set_cons_succ]
            refine wpAnyH_ready (rs := [1]) (by kernel_rfl) (by simp) ?_
            refine AllReadyH.cons (o := ?or1b2b4_1) ?ir1b2b4_1 (fun K hK => ?sr1b2b4_1) AllReadyH.nil
            case ir1b2b4_1 => (simp only [List.getElem?_toArray, List.getElem?_cons_succ, List.getElem?_cons_zero]; rfl)
            (go_simp; (go_at_call 15; refine (HT.out _ hHeld.2).mono ?_; rintro e wK ⟨rfl, hbK⟩; (try have hN := hN.on hbK)))
            refine hK.out _ _ ?kr1b2b4_1 (fun hHeld => ?_)
            case kr1b2b4_1 => (try dsimp only); (first | with_reducible assumption | exact s1_bel (by assumption) (by assumption) | assumption | exact s1_alloc (by assumption) _)
            clear hK K
            try simp only [Act.put, List.setIfInBounds_toArray, List.set_cons_zero, List.set_cons_succ]
            refine wpAnyH_ready (rs := [5]) (by kernel_rfl) (by simp) ?_
            refine AllReadyH.cons (o := ?or1b2b4_5) ?ir1b2b4_5 (fun K hK => ?sr1b2b4_5) AllReadyH.nil
            case ir1b2b4_5 => (simp only [List.getElem?_toArray, List.getElem?_cons_succ, List.getElem?_cons_zero]; rfl)
            (go_simp; (go_at_call 17; refine (HSM.out _).mono ?_; rintro e wK ⟨rfl, hbK⟩))
            refine hK.out _ _ ?kr1b2b4_5 (fun hHeld => ?_)
            case kr1b2b4_5 => (try dsimp only); (first | with_reducible assumption | exact s1_bel (by assumption) (by assumption) | assumption | exact s1_alloc (by assumption) _)
            clear hK K
            try simp only [Act.put, List.setIfInBounds_toArray, List.set_cons_zero, List.set_cons_succ]
            refine tk 6 ?_
            refine tk 7 ?_
            refine tk 8 ?_
            refine tk 9 ?_
            refine tk 11 ?_
            refine wpAnyH_ready (rs := [10]) (by kernel_rfl) (by simp) ?_
            refine AllReadyH.cons (o := ?or1b2b4_10) ?ir1b2b4_10 (fun K hK => ?sr1b2b4_10) AllReadyH.nil
            case ir1b2b4_10 => (simp only [List.getElem?_toArray, List.getElem?_cons_succ, List.getElem?_cons_zero]; rfl)
            (go_simp; (go_at_call 15; refine (HR.out _ hHeld.2).mono ?_; rintro e wK ⟨rfl, hbK⟩))
            refine hK.out _ _ ?kr1b2b4_10 (fun hHeld => ?_)
            case kr1b2b4_10 => (try dsimp only); (first | with_reducible assumption | exact s1_bel (by assumption) (by assumption) | assumption | exact s1_alloc (by assumption) _)
            clear hK K
            try simp only [Act.put, List.setIfInBounds_toArray, List.set_cons_zero, List.set_cons_succ]
            refine tk 12 ?_
            refine tk 13 ?_
            refine tk 14 ?_
            refine tk 15 ?_
            refine tk 16 ?_
            refine tk 17 ?_
            refine tk 18 ?_
            refine tk 19 ?_
            refine tk 20 ?_
            refine tk 21 ?_
            refine tk 24 ?_
            refine wpAnyH_ready (rs := [22]) (by kernel_rfl) (by simp) ?_
            refine AllReadyH.cons (o := ?or1b2b4_22) ?ir1b2b4_22 (fun K hK => ?sr1b2b4_22) AllReadyH.nil
            case ir1b2b4_22 => (simp only [List.getElem?_toArray, List.getElem?_cons_succ, List.getElem?_cons_zero]; rfl)
            ((go_simp))
            refine hK.out _ _ ?kr1b2b4_22 (fun hHeld => ?_)
            case kr1b2b4_22 => (try dsimp only); (first | with_reducible assumption | exact s1_bel (by assumption) (by assumption) | assumption | exact s1_alloc (by assumption) _)
            clear hK K
            try simp only [Act.put, List.setIfInBounds_toArray, List.set_cons_zero, List.set_cons_succ]
            refine wpAnyH_ready (rs := [23]) (by kernel_rfl) (by simp) ?_
            refine AllReadyH.cons (o := ?or1b2b4_23) ?ir1b2b4_23 (fun K hK => ?sr1b2b4_23) AllReadyH.nil
            case ir1b2b4_23 => (simp only [List.getElem?_toArray, List.getElem?_cons_succ, List.getElem?_cons_zero]; rfl)
            (go_simp; (go_at_call 15; refine (H1Z.out _ _ (own_strs_at (own_one _ _ _ _ (Nat.le_refl _)))).mono ?_; rintro e wK ⟨rfl, hbK⟩))
            refine hK.out _ _ ?kr1b2b4_23 (fun hHeld => ?_)
            case kr1b2b4_23 => (try dsimp only); (first | with_reducible assumption | exact s1_bel (by assumption) (by assumption) | assumption | exact s1_alloc (by assumption) _)
            clear hK K
            try simp only [Act.put, List.setIfInBounds_toArray, List.set_cons_zero, List.set_cons_succ]
            refine tk 25 ?_
            refine tk 26 ?_
            refine tk 27 ?_
            refine wpAnyH_done (by kernel_rfl) ?_ _
            refine NoPanic.normal ?_
        all_goals have hZZ := bel_trans HBW.out hHeld.2
        all_goals go_wp2_with fail
        all_goals (go_ret; exact ⟨rfl, hZZ⟩)
      · obtain ⟨j, rfl⟩ : ∃ j, k = j + 1 := ⟨k - 1, by omega⟩
        have hjl : j < l.length := by have := HN.out; omega
        obtain ⟨b, off, rfl, hb, hc0⟩ := txt_at (HA3.out.below hbl s3) j hjl
        have hTs := HL9.out _ (List.getElem_mem hjl)
        obtain ⟨p, hp⟩ : ∃ p, p = l[j] := ⟨_, rfl⟩
        rw [← hp] at hc0 hTs
        obtain ⟨m, hm⟩ : ∃ m, m = mxL (l.drop (j + 1)) := ⟨_, rfl⟩
        have hm9 : m ≤ 9 := by rw [hm]; exact mxL_le (fun s hs => HL9.out s (List.mem_of_mem_drop hs))
        rw [← hm]
        have HM := hid (show mxL (l.drop j) = max p.size m by rw [drop_mx l j hjl, hp, hm])
        have HR := hid (show (Z :: (l.drop j).reverse).map sv = ((Z :: (l.drop (j + 1)).reverse) ++ [p]).map sv by rw [drop_rev l j hjl, hp]; rfl)
        have e1 : (((j + 1 : Nat) : Int) - 1) = (j : Int) := by omega
        rw [e1]
        have hjN : (j : Int) < (N : Int) := by omega
        have HW := hid (show ∀ v, Below w3.heap.size w3 v → v.cell? ⟨b, off + j, none⟩ = some (.string p) from fun v hv => by
          obtain ⟨b', off', e1', _, hc1⟩ := txt_at (HA3.out.below hv s3) j hjl
          simp only [Option.some.injEq, Addr.mk.injEq, and_true] at e1'
          obtain ⟨rfl, rfl⟩ := e1'
          rw [hp]; exact hc1)
        clear hp hm
        have hml : ((m : Nat) : Int) ≤ 9 := by omega
        go_wp2_with (at_builtin; refine app_txt rfl _ _ 23 rfl w3.heap.size 9 Try.underlying23 Try.info_txt _ _ _ rfl hown p p rfl 1 rfl (by omega) (by omega) ?_; intro v4 w4 hown4 hb4 hg4; have hb5 := hbl.trans hb4; have hc1 := HW.out w4 hb5; clear hc0)
        go_roundw
        case rel => exact ⟨j, by omega, by go_num, by rw [HM.out]; congr 1; omega, by rw [HR.out, show 1 + (N - j) = 1 + (N - (j + 1)) + 1 by omega]; exact hown4, hb5⟩
        case measure => simp [intOf]
end Go.Proofs.Ytlocmgibmclgnaa
