/- Walks of exact laws: each law's Go text returns true, and writes nothing that was there. -/
import Derived.Test.YtgaihfmopenfeaaOf
namespace Go.Proofs.Ytgaihfmopenfeaa
set_option linter.unusedVariables false
set_option linter.unusedSimpArgs false
open Go.ChangeShapes Go.WideShapes Go.ChangeAt Go.RowKit Go.Joins

set_option maxHeartbeats 400000 in
theorem c_szKnownF (k : Kn) (A : Option Addr) (cap : Nat) (F : Int) (w : World) (hF : F ≤ 1048576) (hn : k.ps.length ≤ F) : Calls Try.prog 5 #[.agg #[.int .i64 k.o, .int .i64 k.l, .int .i64 k.m, .slice A k.ps.length cap, .int .i64 k.base, .int .i64 k.last], .int .i64 F] w fun e w' => e = .returned (.int .i64 (F - k.ps.length)) ∧ Below w.heap.size w w' := by
  have hz : ∀ w, Calls Try.prog 19 #[.slice A k.ps.length cap, .int .i64 F] w (Same (.int .i64 (F - k.ps.length)) w) := by
    intro w
    go_enter Try.func19, Try.ntmps19
    go_wp2
    go_ret
    exact ⟨rfl, rfl⟩
  have HZ := hid hz
  clear hz
  go_enter Try.func5, Try.ntmps5
  go_wp2_with (go_at_call 19; refine (HZ.out _).mono ?_; rintro e w' ⟨rfl, rfl⟩)
  go_ret
  exact ⟨rfl, by (repeat (first | with_reducible (first | assumption | exact Below.refl _ _ | refine bel_alloc ?_ _ | refine bel_drew ?_ | refine bel_drewN ?_ _ | refine bel_set ?_ (by first | omega | (simp; done) | (simp; omega)) _ | refine bel_trans ?_ (by assumption)) | assumption | refine bel_trans ?_ (by assumption)))⟩

theorem c_szKnownF_big (k : Kn) (A : Option Addr) (cap : Nat) (F : Int) (w : World) (h0 : 0 ≤ F) (hF : F ≤ 1048576) (hn : F < k.ps.length) (hc : k.ps.length ≤ maxLen) : Calls Try.prog 5 #[.agg #[.int .i64 k.o, .int .i64 k.l, .int .i64 k.m, .slice A k.ps.length cap, .int .i64 k.base, .int .i64 k.last], .int .i64 F] w fun e w' => e = .returned (.int .i64 (-1)) ∧ Below w.heap.size w w' := by
  unfold maxLen at hc
  have hz : ∀ w, Calls Try.prog 19 #[.slice A k.ps.length cap, .int .i64 F] w (Same (.int .i64 (-1)) w) := by
    intro w
    go_enter Try.func19, Try.ntmps19
    go_wp2
    go_ret
    exact ⟨rfl, rfl⟩
  have HZ := hid hz
  clear hz
  go_enter Try.func5, Try.ntmps5
  go_wp2_with (go_at_call 19; refine (HZ.out _).mono ?_; rintro e w' ⟨rfl, rfl⟩)
  go_ret
  exact ⟨rfl, by (repeat (first | with_reducible (first | assumption | exact Below.refl _ _ | refine bel_alloc ?_ _ | refine bel_drew ?_ | refine bel_drewN ?_ _ | refine bel_set ?_ (by first | omega | (simp; done) | (simp; omega)) _ | refine bel_trans ?_ (by assumption)) | assumption | refine bel_trans ?_ (by assumption)))⟩

set_option maxHeartbeats 1000000 in
theorem c_markPairSF (F : Int) (hF0 : 0 ≤ F) (hF : F ≤ 10000000) (B G cap : Nat) (ps : List Pr) (w : World) (h : w.ownsRow B 69 2 (.slice (some ⟨G, 0, none⟩) ps.length cap) ps.length (prs ps)) (hn : ps.length ≤ 1048576) : Calls Try.prog 27 #[.slice (some ⟨G, 0, none⟩) ps.length cap, .int .i64 F] w fun e w' => e = .returned (.int .i64 (F + 2 * ps.length)) ∧ w'.ownsRow B 69 2 (.slice (some ⟨G, 0, none⟩) ps.length cap) ps.length (prs (mk ps.length F)) ∧ w.grownBy w' (some G) := by
  obtain ⟨N, hN⟩ : ∃ N, N = ps.length := ⟨_, rfl⟩
  have HN := hid hN
  rw [← hN] at hn h ⊢
  clear hN
  have HH := hid h
  clear h
  go_enter Try.func27, Try.ntmps27
  go_wp2_with fail
  go_loopw [1, 5] (fun m i wr => ∃ k : Nat, k ≤ N ∧ i = .int .i64 k ∧ m = .int .i64 (F + 2 * k) ∧ wr.ownsRow B 69 2 (.slice (some ⟨G, 0, none⟩) N cap) N (prs (mk k F ++ ps.drop k)) ∧ w.grownBy wr (some G)) (fun _ i _ => N - (intOf i).toNat)
  case atStart => exact ⟨0, Nat.zero_le _, rfl, vint (by omega), by simpa [mk] using HH.out, grown_refl _ _⟩
  case round =>
    obtain ⟨k, hk, rfl, rfl, hown, hgr⟩ := hrel
    by_cases hlt : k < N
    · have hlt2 : k < ps.length := by have := HN.out; omega
      obtain ⟨p, hp⟩ : ∃ p, p = ps[k] := ⟨_, rfl⟩
      have HE := hid (show (mk k F ++ ps.drop k)[k]? = some p by
        rw [List.getElem?_append_right (by rw [mk_len]; omega), mk_len, Nat.sub_self, List.getElem?_drop, Nat.add_zero, hp]; exact List.getElem?_eq_getElem hlt2)
      have HS := hid (show (mk k F ++ ps.drop k).set k (F + 2 * k, F + 2 * k + 1) = mk (k + 1) F ++ ps.drop (k + 1) by
        rw [List.set_append, if_neg (by rw [mk_len]; omega), mk_len, Nat.sub_self, List.drop_eq_getElem_cons hlt2, List.set_cons_zero, mk_succ]; simp)
      clear hp
      obtain ⟨q0, q1⟩ := own_pair hown k _ HE.out
      have f0 := hown.frozenAt (k * 2)
      have f1 := hown.frozenAt (k * 2 + 1)
      have hst := own_store_pair hown k (F + 2 * k, F + 2 * k + 1)
      rw [HS.out] at hst
      have hst2 := grown_set (grown_set hgr (k * 2) (.int .i64 (F + 2 * k))) (k * 2 + 1) (.int .i64 (F + 2 * k + 1))
      have HT := hid (And.intro hst hst2)
      clear hst hst2 hown hgr
      go_wp2
      go_roundw
      case rel => exact ⟨k + 1, by omega, by go_num, vint (by omega), HT.out.1, HT.out.2⟩
      case measure => simp [intOf]; omega
    · have HD := hid (show mk k F ++ ps.drop k = mk N F by rw [show k = N from by omega, List.drop_of_length_le (by have := HN.out; omega)]; simp)
      rw [HD.out] at hown
      go_wp2
      go_ret
      exact ⟨ret_int (by omega), hown, hgr⟩

theorem c_markPairSF_nil (F : Int) (w : World) : Calls Try.prog 27 #[.slice none 0 0, .int .i64 F] w (Same (.int .i64 F) w) := by
  go_enter Try.func27, Try.ntmps27
  go_wp2_with fail
  go_loop [1, 5] (fun m i => m = .int .i64 F ∧ i = .int .i64 0) (fun _ i => 0)
  case atStart => exact ⟨rfl, rfl⟩
  case round =>
    obtain ⟨rfl, rfl⟩ := hrel
    go_wp2
    go_ret
    exact ⟨rfl, rfl⟩

theorem c_mkKnownF_nil (F o l m b t : Int) (w : World) : Calls Try.prog 11 #[.agg #[.int .i64 o, .int .i64 l, .int .i64 m, .slice none 0 0, .int .i64 b, .int .i64 t], .int .i64 F] w fun e w' => e = .returned (.int .i64 F) ∧ Below w.heap.size w w' := by
  go_enter Try.func11, Try.ntmps11
  go_wp2_with (go_at_call 27; refine (c_markPairSF_nil F _).mono ?_; rintro e w' ⟨rfl, rfl⟩)
  go_ret
  exact ⟨rfl, by (repeat (first | with_reducible (first | assumption | exact Below.refl _ _ | refine bel_alloc ?_ _ | refine bel_drew ?_ | refine bel_drewN ?_ _ | refine bel_set ?_ (by first | omega | (simp; done) | (simp; omega)) _ | refine bel_trans ?_ (by assumption)) | assumption | refine bel_trans ?_ (by assumption)))⟩

theorem c_mkKnownF_some (F : Int) (hF0 : 0 ≤ F) (hF : F ≤ 10000000) (k : Kn) (B G cap : Nat) (w : World) (h : w.ownsRow B 69 2 (.slice (some ⟨G, 0, none⟩) k.ps.length cap) k.ps.length (prs k.ps)) (hB : B ≤ w.heap.size) (hn : k.ps.length ≤ 1048576) : Calls Try.prog 11 #[.agg #[.int .i64 k.o, .int .i64 k.l, .int .i64 k.m, .slice (some ⟨G, 0, none⟩) k.ps.length cap, .int .i64 k.base, .int .i64 k.last], .int .i64 F] w fun e w' => e = .returned (.int .i64 (F + 2 * k.ps.length)) ∧ w'.ownsRow B 69 2 (.slice (some ⟨G, 0, none⟩) k.ps.length cap) k.ps.length (prs (mk k.ps.length F)) ∧ w.grownBy w' (some G) := by
  have HH := hid h
  clear h
  go_enter Try.func11, Try.ntmps11
  go_wp2_with fail
  refine (c_markPairSF F hF0 hF B G cap k.ps _ (HH.out.alloc _) hn).mono ?_
  rintro e w1 ⟨rfl, hown, hg⟩
  have hg2 := grown_trans (World.grownBy_alloc w (.cells #[.int .i64 k.o, .int .i64 k.l, .int .i64 k.m, .slice (some ⟨G, 0, none⟩) k.ps.length cap, .int .i64 k.base, .int .i64 k.last] 33) (some G)) hg
  clear hg
  go_wp2
  go_ret
  exact ⟨rfl, hown, hg2⟩

theorem c_markKnownF_any (F : Int) (hF0 : 0 ≤ F) (hF : F ≤ 10000000) (k : Kn) (B cap : Nat) (A : Option Addr) (w : World) (h : w.ownsRow B 69 2 (.slice A k.ps.length cap) k.ps.length (prs k.ps)) (hB : B ≤ w.heap.size) (hn : k.ps.length ≤ 1048576) : Calls Try.prog 11 #[.agg #[.int .i64 k.o, .int .i64 k.l, .int .i64 k.m, .slice A k.ps.length cap, .int .i64 k.base, .int .i64 k.last], .int .i64 F] w fun e w' => e = .returned (.int .i64 (F + 2 * k.ps.length)) ∧ w'.ownsRow B 69 2 (.slice A k.ps.length cap) k.ps.length (prs (mk k.ps.length F)) ∧ w.grownBy w' (Value.slice A k.ps.length cap).ownBlock := by
  cases A with
  | none =>
    obtain ⟨h1, h2, _⟩ := own_none h
    rw [h1, h2]
    refine (c_mkKnownF_nil F _ _ _ _ _ _).mono ?_
    rintro e w' ⟨rfl, hb⟩
    exact ⟨ret_int (by simp), own_ps_nil _ _ _, grown_below _ hb⟩
  | some a =>
    obtain ⟨g, rfl⟩ := own_some h
    exact (c_mkKnownF_some F hF0 hF k B g cap w h hB hn).mono fun e w' h2 => ⟨h2.1, h2.2.1, h2.2.2⟩

set_option maxHeartbeats 8000000 in
set_option maxRecDepth 100000 in
theorem walk_FnExactSharedWords (k : Kn) (Ak : Option Addr) (capk : Nat) (j : Kn) (Aj : Option Addr) (capj : Nat) (w : World) (hpk : PsAt w w.heap.size Ak capk k.ps) (hink : k.In) (hpj : PsAt w w.heap.size Aj capj j.ps) (hinj : j.In) :
    Calls Try.prog 3 #[.agg #[.int .i64 k.o, .int .i64 k.l, .int .i64 k.m, .slice Ak k.ps.length capk, .int .i64 k.base, .int .i64 k.last], .agg #[.int .i64 j.o, .int .i64 j.l, .int .i64 j.m, .slice Aj j.ps.length capj, .int .i64 j.base, .int .i64 j.last]] w fun e w' => e = .returned (.bool true) ∧ Below w.heap.size w w' := by
  by_cases hnk0 : 1048576 < k.ps.length
  · have hcm := Nat.le_trans hpk.1 hpk.2.1
    go_enter Try.func3, Try.ntmps3
    go_wp2_with fail
    refine (c_szKnown_big k Ak capk _ (by omega) (by omega)).mono ?_
    rintro e w1 ⟨rfl, hb1⟩
    go_wp2
    go_ret
    exact ⟨rfl, by (repeat (first | with_reducible (first | assumption | exact Below.refl _ _ | refine bel_alloc ?_ _ | refine bel_drew ?_ | refine bel_drewN ?_ _ | refine bel_set ?_ (by first | omega | (simp; done) | (simp; omega)) _ | refine bel_trans ?_ (by assumption)) | assumption | refine bel_trans ?_ (by assumption)))⟩
  have hnk : k.ps.length ≤ 1048576 := by omega
  have HKA := hid ((Blk.new w 26 #[.int .i64 k.o, .int .i64 k.l, .int .i64 k.m, .slice Ak k.ps.length capk, .int .i64 k.base, .int .i64 k.last]).alloc (.cells #[.int .i64 j.o, .int .i64 j.l, .int .i64 j.m, .slice Aj j.ps.length capj, .int .i64 j.base, .int .i64 j.last] 26))
  have HKB := hid (show Blk ((w.alloc (.cells #[.int .i64 k.o, .int .i64 k.l, .int .i64 k.m, .slice Ak k.ps.length capk, .int .i64 k.base, .int .i64 k.last] 26)).alloc (.cells #[.int .i64 j.o, .int .i64 j.l, .int .i64 j.m, .slice Aj j.ps.length capj, .int .i64 j.base, .int .i64 j.last] 26)) (w.heap.size + 1) 26 #[.int .i64 j.o, .int .i64 j.l, .int .i64 j.m, .slice Aj j.ps.length capj, .int .i64 j.base, .int .i64 j.last] by have h1 := Blk.new (w.alloc (.cells #[.int .i64 k.o, .int .i64 k.l, .int .i64 k.m, .slice Ak k.ps.length capk, .int .i64 k.base, .int .i64 k.last] 26)) 26 #[.int .i64 j.o, .int .i64 j.l, .int .i64 j.m, .slice Aj j.ps.length capj, .int .i64 j.base, .int .i64 j.last]; rw [World.size_alloc] at h1; exact h1)
  have hbV := bel_alloc (bel_alloc (Below.refl _ w) (.cells #[.int .i64 k.o, .int .i64 k.l, .int .i64 k.m, .slice Ak k.ps.length capk, .int .i64 k.base, .int .i64 k.last] 26)) (.cells #[.int .i64 j.o, .int .i64 j.l, .int .i64 j.m, .slice Aj j.ps.length capj, .int .i64 j.base, .int .i64 j.last] 26)
  obtain ⟨V, hV⟩ : ∃ V, V = (w.alloc (.cells #[.int .i64 k.o, .int .i64 k.l, .int .i64 k.m, .slice Ak k.ps.length capk, .int .i64 k.base, .int .i64 k.last] 26)).alloc (.cells #[.int .i64 j.o, .int .i64 j.l, .int .i64 j.m, .slice Aj j.ps.length capj, .int .i64 j.base, .int .i64 j.last] 26) := ⟨_, rfl⟩
  rw [← hV] at HKA HKB hbV
  by_cases hnj0 : (1048576 : Int) - k.ps.length < j.ps.length
  · have hcm := Nat.le_trans hpj.1 hpj.2.1
    have qk := HKA.out.cells6
    obtain ⟨q1, q2, q3, q4, q5, q6⟩ := qk
    rw [hV] at q1 q2 q3 q4 q5 q6
    go_enter Try.func3, Try.ntmps3
    go_wp2_with fail
    rw [← hV] at q1 q2 q3 q4 q5 q6 ⊢
    clear hV q1 q2 q3 q4 q5 q6
    refine (c_szKnownF k Ak capk 1048576 _ (by omega) (by omega)).mono ?_
    rintro e w1 ⟨rfl, hb1⟩
    have hB1 : Below w.heap.size w w1 := hbV.trans (hb1.mono hbV.size)
    have hz1 : w.heap.size ≤ w1.heap.size := hB1.size
    have kA1 := HKA.out.on hb1
    have kB1 := HKB.out.on hb1
    clear hb1 HKA HKB hbV
    obtain ⟨p1, p2, p3, p4, p5, p6⟩ := kB1.cells6
    go_wp2_with fail
    refine (c_szKnownF_big j Aj capj _ _ (by omega) (by omega) hnj0 hcm).mono ?_
    rintro e w2 ⟨rfl, hb2⟩
    have hB2 : Below w.heap.size w w2 := hB1.trans (hb2.mono hB1.size)
    go_wp2
    go_ret
    exact ⟨rfl, hB2⟩
  have hnj : j.ps.length ≤ 1048576 := by omega
  have hwk := hink.wf hnk
  have hwj := hinj.wf hnj
  obtain ⟨R, hl0, HS, HI⟩ : ∃ (R : List ByteArray), R.length ≤ 1048576 ∧ (∀ (A B : Option Addr) (cap cbp L : Nat) (w : World), PsAt w L A cap k.ps → PsAt w L B cbp j.ps → L ≤ w.heap.size → Calls Try.prog 6 #[.agg #[.int .i64 k.o, .int .i64 k.l, .int .i64 k.m, .slice A k.ps.length cap, .int .i64 k.base, .int .i64 k.last], .agg #[.int .i64 j.o, .int .i64 j.l, .int .i64 j.m, .slice B j.ps.length cbp, .int .i64 j.base, .int .i64 j.last]] w (fun e w' => ∃ A0_ cap0_, e = .returned (.slice A0_ R.length cap0_) ∧ w'.ownsRow w.heap.size 9 1 (.slice A0_ R.length cap0_) R.length (R.map sv) ∧ Below w.heap.size w w')) ∧ (∀ (A B : Option Addr) (cap cbp L : Nat) (w : World), PsAt w L A cap k.ps → PsAt w L B cbp j.ps → L ≤ w.heap.size → Calls Try.prog 8 #[.agg #[.int .i64 k.o, .int .i64 k.l, .int .i64 k.m, .slice A k.ps.length cap, .int .i64 k.base, .int .i64 k.last], .agg #[.int .i64 j.o, .int .i64 j.l, .int .i64 j.m, .slice B j.ps.length cbp, .int .i64 j.base, .int .i64 j.last]] w (fun e w' => ∃ A0_ cap0_, e = .returned (.slice A0_ R.length cap0_) ∧ w'.ownsRow w.heap.size 9 1 (.slice A0_ R.length cap0_) R.length (R.map sv) ∧ Below w.heap.size w w')) := ⟨shR k j, shR_len k j, fun A B cap cbp L w h h2 hL => c_sSharedWords k j A B cap cbp L w h h2 hL hwk hwj, fun A B cap cbp L w h h2 hL => c_SharedWords k j A B cap cbp L w h h2 hL hwk hwj⟩
  have HPk := hid hpk
  have HPj := hid hpj
  have HS := hid HS
  have HI := hid HI
  have hsum : (k.ps.length : Int) + j.ps.length ≤ 1048576 := by omega
  clear hpk hpj hink hinj hwk hwj hnk0 hnj0
  have qk := HKA.out.cells6
  obtain ⟨q1, q2, q3, q4, q5, q6⟩ := qk
  rw [hV] at q1 q2 q3 q4 q5 q6
  go_enter Try.func3, Try.ntmps3
  go_wp2_with fail
  rw [← hV] at q1 q2 q3 q4 q5 q6 ⊢
  clear hV q1 q2 q3 q4 q5 q6
  refine (c_szKnownF k Ak capk 1048576 _ (by omega) (by omega)).mono ?_
  rintro e w1 ⟨rfl, hb1⟩
  have hB1 : Below w.heap.size w w1 := hbV.trans (hb1.mono hbV.size)
  have hz1 : w.heap.size ≤ w1.heap.size := hB1.size
  have kA1 := HKA.out.on hb1
  have kB1 := HKB.out.on hb1
  clear hb1 HKA HKB hbV
  obtain ⟨q0_0, q0_1, q0_2, q0_3, q0_4, q0_5⟩ := kA1.cells6
  have l0 := kA1.lt
  obtain ⟨q1_0, q1_1, q1_2, q1_3, q1_4, q1_5⟩ := kB1.cells6
  have l1 := kB1.lt
  go_wp2_with fail
  refine (c_szKnownF j Aj capj _ _ (by omega) (by omega)).mono ?_
  rintro e w2 ⟨rfl, hb2⟩
  have hz2 : w1.heap.size ≤ w2.heap.size := by have := hb2.size; first | exact this | (simp only [World.size_alloc] at this; omega)
  have kA2 := kA1.on hb2
  have kB2 := kB1.on hb2
  have hB2 : Below w.heap.size w w2 := by (repeat (first | with_reducible (first | assumption | exact Below.refl _ _ | refine bel_alloc ?_ _ | refine bel_drew ?_ | refine bel_drewN ?_ _ | refine bel_set ?_ (by first | omega | (simp; done) | (simp; omega)) _ | refine bel_trans ?_ (by assumption)) | assumption | refine bel_trans ?_ (by assumption)))
  clear kA1 kB1 q0_0 q0_1 q0_2 q0_3 q0_4 q0_5 l0 q1_0 q1_1 q1_2 q1_3 q1_4 q1_5 l1 hb2 hB1
  obtain ⟨q0_0, q0_1, q0_2, q0_3, q0_4, q0_5⟩ := kA2.cells6
  have l0 := kA2.lt
  obtain ⟨q1_0, q1_1, q1_2, q1_3, q1_4, q1_5⟩ := kB2.cells6
  have l1 := kB2.lt
  go_wp2_with fail
  have hS := held12 kA2.cells6 kB2.cells6 (Below.refl w2.heap.size w2)
  refine wp_region_noPanic ?_
  refine wp_region_held_drew (S := (fun v => v.cell? ⟨w.heap.size, 0, none⟩ = some (.int .i64 k.o) ∧ v.cell? ⟨w.heap.size, 1, none⟩ = some (.int .i64 k.l) ∧ v.cell? ⟨w.heap.size, 2, none⟩ = some (.int .i64 k.m) ∧ v.cell? ⟨w.heap.size, 3, none⟩ = some (.slice Ak k.ps.length capk) ∧ v.cell? ⟨w.heap.size, 4, none⟩ = some (.int .i64 k.base) ∧ v.cell? ⟨w.heap.size, 5, none⟩ = some (.int .i64 k.last) ∧ v.cell? ⟨w.heap.size + 1, 0, none⟩ = some (.int .i64 j.o) ∧ v.cell? ⟨w.heap.size + 1, 1, none⟩ = some (.int .i64 j.l) ∧ v.cell? ⟨w.heap.size + 1, 2, none⟩ = some (.int .i64 j.m) ∧ v.cell? ⟨w.heap.size + 1, 3, none⟩ = some (.slice Aj j.ps.length capj) ∧ v.cell? ⟨w.heap.size + 1, 4, none⟩ = some (.int .i64 j.base) ∧ v.cell? ⟨w.heap.size + 1, 5, none⟩ = some (.int .i64 j.last) ∧ Below w2.heap.size w2 v)) (by kernel_rfl) (s12_drew hS) (fun hHeld => ?_)
  refine tk 0 ?_
  refine tk 2 ?_
  refine wpAnyH_ready (rs := [1]) (by kernel_rfl) (by simp) ?_
  refine AllReadyH.cons (o := ?or1_1) ?ir1_1 (fun K hK => ?sr1_1) AllReadyH.nil
  case ir1_1 => (simp only [List.getElem?_toArray, List.getElem?_cons_succ, List.getElem?_cons_zero]; rfl)
  (first | (go_simp; (first | (go_at_call 7; with_reducible refine (c_toKnown k Ak capk w.heap.size _ (HPk.out.below (bel_trans hB2 hHeld.2.2.2.2.2.2.2.2.2.2.2.2) (Nat.le_refl _)) (bel_trans hB2 hHeld.2.2.2.2.2.2.2.2.2.2.2.2).size hnk).mono ?_; rintro e wa ⟨ga, rfl, howna, hba⟩) | (go_at_call 7; with_reducible refine (c_toKnown j Aj capj w.heap.size _ (HPj.out.below (bel_trans hB2 hHeld.2.2.2.2.2.2.2.2.2.2.2.2) (Nat.le_refl _)) (bel_trans hB2 hHeld.2.2.2.2.2.2.2.2.2.2.2.2).size hnj).mono ?_; rintro e wb ⟨gb, rfl, hownb, hbb⟩) | (go_at_call 6; refine (HS.out _ _ _ _ _ _ (own_ps_at (own_on howna (by (repeat (first | with_reducible (first | assumption | exact Below.refl _ _ | refine bel_alloc ?_ _ | refine bel_drew ?_ | refine bel_drewN ?_ _ | refine bel_set ?_ (by first | omega | (simp; done) | (simp; omega)) _ | refine bel_trans ?_ (by assumption)) | assumption | refine bel_trans ?_ (by assumption)))))) (own_ps_at (own_on hownb (by (repeat (first | with_reducible (first | assumption | exact Below.refl _ _ | refine bel_alloc ?_ _ | refine bel_drew ?_ | refine bel_drewN ?_ _ | refine bel_set ?_ (by first | omega | (simp; done) | (simp; omega)) _ | refine bel_trans ?_ (by assumption)) | assumption | refine bel_trans ?_ (by assumption)))))) (Nat.le_refl _)).mono ?_; rintro e w3 ⟨AW0, cW0, rfl, oW03_, hbf3⟩; have oW03 := own_mono (B' := w2.heap.size) oW03_ (hHeld.2.2.2.2.2.2.2.2.2.2.2.2).size) | skip)))
  refine hK.out _ _ ?kr1_1 (fun hHeld => ?_)
  case kr1_1 => (try dsimp only); (first | with_reducible assumption | exact s12_bel (by assumption) (by assumption) | assumption | exact s12_alloc (by assumption) _)
  clear hK K
  try simp only [Act.put, List.setIfInBounds_toArray, List.set_cons_zero, List.set_cons_succ]
  refine wpAnyH_ready (rs := [3]) (by kernel_rfl) (by simp) ?_
  refine AllReadyH.cons (o := ?or1_3) ?ir1_3 (fun K hK => ?sr1_3) AllReadyH.nil
  case ir1_3 => (simp only [List.getElem?_toArray, List.getElem?_cons_succ, List.getElem?_cons_zero]; rfl)
  (first | (go_simp; (first | (go_at_call 7; with_reducible refine (c_toKnown k Ak capk w.heap.size _ (HPk.out.below (bel_trans hB2 hHeld.2.2.2.2.2.2.2.2.2.2.2.2) (Nat.le_refl _)) (bel_trans hB2 hHeld.2.2.2.2.2.2.2.2.2.2.2.2).size hnk).mono ?_; rintro e wa ⟨ga, rfl, howna, hba⟩) | (go_at_call 7; with_reducible refine (c_toKnown j Aj capj w.heap.size _ (HPj.out.below (bel_trans hB2 hHeld.2.2.2.2.2.2.2.2.2.2.2.2) (Nat.le_refl _)) (bel_trans hB2 hHeld.2.2.2.2.2.2.2.2.2.2.2.2).size hnj).mono ?_; rintro e wb ⟨gb, rfl, hownb, hbb⟩) | (go_at_call 6; refine (HS.out _ _ _ _ _ _ (own_ps_at (own_on howna (by (repeat (first | with_reducible (first | assumption | exact Below.refl _ _ | refine bel_alloc ?_ _ | refine bel_drew ?_ | refine bel_drewN ?_ _ | refine bel_set ?_ (by first | omega | (simp; done) | (simp; omega)) _ | refine bel_trans ?_ (by assumption)) | assumption | refine bel_trans ?_ (by assumption)))))) (own_ps_at (own_on hownb (by (repeat (first | with_reducible (first | assumption | exact Below.refl _ _ | refine bel_alloc ?_ _ | refine bel_drew ?_ | refine bel_drewN ?_ _ | refine bel_set ?_ (by first | omega | (simp; done) | (simp; omega)) _ | refine bel_trans ?_ (by assumption)) | assumption | refine bel_trans ?_ (by assumption)))))) (Nat.le_refl _)).mono ?_; rintro e w3 ⟨AW0, cW0, rfl, oW03_, hbf3⟩; have oW03 := own_mono (B' := w2.heap.size) oW03_ (hHeld.2.2.2.2.2.2.2.2.2.2.2.2).size) | skip)))
  refine hK.out _ _ ?kr1_3 (fun hHeld => ?_)
  case kr1_3 => (try dsimp only); (first | with_reducible assumption | exact s12_bel (by assumption) (by assumption) | assumption | exact s12_alloc (by assumption) _)
  clear hK K
  try simp only [Act.put, List.setIfInBounds_toArray, List.set_cons_zero, List.set_cons_succ]
  refine wpAnyH_ready (rs := [4]) (by kernel_rfl) (by simp) ?_
  refine AllReadyH.cons (o := ?or1_4) ?ir1_4 (fun K hK => ?sr1_4) AllReadyH.nil
  case ir1_4 => (simp only [List.getElem?_toArray, List.getElem?_cons_succ, List.getElem?_cons_zero]; rfl)
  (first | (go_simp; (first | (go_at_call 7; with_reducible refine (c_toKnown k Ak capk w.heap.size _ (HPk.out.below (bel_trans hB2 hHeld.2.2.2.2.2.2.2.2.2.2.2.2) (Nat.le_refl _)) (bel_trans hB2 hHeld.2.2.2.2.2.2.2.2.2.2.2.2).size hnk).mono ?_; rintro e wa ⟨ga, rfl, howna, hba⟩) | (go_at_call 7; with_reducible refine (c_toKnown j Aj capj w.heap.size _ (HPj.out.below (bel_trans hB2 hHeld.2.2.2.2.2.2.2.2.2.2.2.2) (Nat.le_refl _)) (bel_trans hB2 hHeld.2.2.2.2.2.2.2.2.2.2.2.2).size hnj).mono ?_; rintro e wb ⟨gb, rfl, hownb, hbb⟩) | (go_at_call 6; refine (HS.out _ _ _ _ _ _ (own_ps_at (own_on howna (by (repeat (first | with_reducible (first | assumption | exact Below.refl _ _ | refine bel_alloc ?_ _ | refine bel_drew ?_ | refine bel_drewN ?_ _ | refine bel_set ?_ (by first | omega | (simp; done) | (simp; omega)) _ | refine bel_trans ?_ (by assumption)) | assumption | refine bel_trans ?_ (by assumption)))))) (own_ps_at (own_on hownb (by (repeat (first | with_reducible (first | assumption | exact Below.refl _ _ | refine bel_alloc ?_ _ | refine bel_drew ?_ | refine bel_drewN ?_ _ | refine bel_set ?_ (by first | omega | (simp; done) | (simp; omega)) _ | refine bel_trans ?_ (by assumption)) | assumption | refine bel_trans ?_ (by assumption)))))) (Nat.le_refl _)).mono ?_; rintro e w3 ⟨AW0, cW0, rfl, oW03_, hbf3⟩; have oW03 := own_mono (B' := w2.heap.size) oW03_ (hHeld.2.2.2.2.2.2.2.2.2.2.2.2).size) | skip)))
  refine hK.out _ _ ?kr1_4 (fun hHeld => ?_)
  case kr1_4 => (try dsimp only); (first | with_reducible assumption | exact s12_bel (by assumption) (by assumption) | assumption | exact s12_alloc (by assumption) _)
  clear hK K
  try simp only [Act.put, List.setIfInBounds_toArray, List.set_cons_zero, List.set_cons_succ]
  refine tk 5 ?_
  refine wpAnyH_done (by kernel_rfl) ?_ _
  refine NoPanic.normal ?_
  all_goals
    have hb3 := hHeld.2.2.2.2.2.2.2.2.2.2.2.2
    clear hHeld hS hbf3 hba hbb howna hownb oW03_
    have hz3 : w2.heap.size ≤ w3.heap.size := by have := hb3.size; first | exact this | (simp only [World.size_alloc] at this; omega)
    have kA3 := kA2.on hb3
    have kB3 := kB2.on hb3
    have hB3 : Below w.heap.size w w3 := by (repeat (first | with_reducible (first | assumption | exact Below.refl _ _ | refine bel_alloc ?_ _ | refine bel_drew ?_ | refine bel_drewN ?_ _ | refine bel_set ?_ (by first | omega | (simp; done) | (simp; omega)) _ | refine bel_trans ?_ (by assumption)) | assumption | refine bel_trans ?_ (by assumption)))
    clear kA2 kB2 q0_0 q0_1 q0_2 q0_3 q0_4 q0_5 l0 q1_0 q1_1 q1_2 q1_3 q1_4 q1_5 l1 hb3 hB2
    obtain ⟨q0_0, q0_1, q0_2, q0_3, q0_4, q0_5⟩ := kA3.cells6
    have l0 := kA3.lt
    obtain ⟨q1_0, q1_1, q1_2, q1_3, q1_4, q1_5⟩ := kB3.cells6
    have l1 := kB3.lt
    have uoW0 := hid (own_upto oW03)
    go_wp2_with fail
    refine (c_toKnown k Ak capk w.heap.size _ (HPk.out.below (by (repeat (first | with_reducible (first | assumption | exact Below.refl _ _ | refine bel_alloc ?_ _ | refine bel_drew ?_ | refine bel_drewN ?_ _ | refine bel_set ?_ (by first | omega | (simp; done) | (simp; omega)) _ | refine bel_trans ?_ (by assumption)) | assumption | refine bel_trans ?_ (by assumption)))) (Nat.le_refl _)) (by first | omega | (simp only [World.size_alloc]; omega)) hnk).mono ?_
    rintro e w4 ⟨gx0, rfl, hown4, hb4⟩
    have hz4 : w3.heap.size ≤ w4.heap.size := by have := hb4.size; first | exact this | (simp only [World.size_alloc] at this; omega)
    have kA4 := kA3.on hb4
    have kB4 := kB3.on hb4
    have oW04 := own_on oW03 hb4
    have hB4 : Below w.heap.size w w4 := by (repeat (first | with_reducible (first | assumption | exact Below.refl _ _ | refine bel_alloc ?_ _ | refine bel_drew ?_ | refine bel_drewN ?_ _ | refine bel_set ?_ (by first | omega | (simp; done) | (simp; omega)) _ | refine bel_trans ?_ (by assumption)) | assumption | refine bel_trans ?_ (by assumption)))
    clear kA3 kB3 oW03 q0_0 q0_1 q0_2 q0_3 q0_4 q0_5 l0 q1_0 q1_1 q1_2 q1_3 q1_4 q1_5 l1 hb4 hB3
    obtain ⟨q0_0, q0_1, q0_2, q0_3, q0_4, q0_5⟩ := kA4.cells6
    have l0 := kA4.lt
    obtain ⟨q1_0, q1_1, q1_2, q1_3, q1_4, q1_5⟩ := kB4.cells6
    have l1 := kB4.lt
    have ox04 := own_mono (B' := w3.heap.size) hown4 (by first | exact Nat.le_refl _ | (simp only [World.size_alloc]; omega) | omega)
    have uox0 := hid (own_upto ox04)
    clear hown4
    go_wp2_with fail
    refine (c_toKnown j Aj capj w.heap.size _ (HPj.out.below (by (repeat (first | with_reducible (first | assumption | exact Below.refl _ _ | refine bel_alloc ?_ _ | refine bel_drew ?_ | refine bel_drewN ?_ _ | refine bel_set ?_ (by first | omega | (simp; done) | (simp; omega)) _ | refine bel_trans ?_ (by assumption)) | assumption | refine bel_trans ?_ (by assumption)))) (Nat.le_refl _)) (by first | omega | (simp only [World.size_alloc]; omega)) hnj).mono ?_
    rintro e w5 ⟨gx1, rfl, hown5, hb5⟩
    have hz5 : w4.heap.size ≤ w5.heap.size := by have := hb5.size; first | exact this | (simp only [World.size_alloc] at this; omega)
    have kA5 := (kA4.alloc _).on hb5
    have kB5 := (kB4.alloc _).on hb5
    have kX5 := (Blk.new _ 33 #[.int .i64 k.o, .int .i64 k.l, .int .i64 k.m, .slice (some ⟨gx0, 0, none⟩) k.ps.length k.ps.length, .int .i64 k.base, .int .i64 k.last]).on hb5
    have oW05 := own_on (oW04.alloc _) hb5
    have ox05 := own_on (ox04.alloc _) hb5
    have hB5 : Below w.heap.size w w5 := by (repeat (first | with_reducible (first | assumption | exact Below.refl _ _ | refine bel_alloc ?_ _ | refine bel_drew ?_ | refine bel_drewN ?_ _ | refine bel_set ?_ (by first | omega | (simp; done) | (simp; omega)) _ | refine bel_trans ?_ (by assumption)) | assumption | refine bel_trans ?_ (by assumption)))
    clear kA4 kB4 oW04 ox04 q0_0 q0_1 q0_2 q0_3 q0_4 q0_5 l0 q1_0 q1_1 q1_2 q1_3 q1_4 q1_5 l1 hb5 hB4
    obtain ⟨q0_0, q0_1, q0_2, q0_3, q0_4, q0_5⟩ := kA5.cells6
    have l0 := kA5.lt
    obtain ⟨q1_0, q1_1, q1_2, q1_3, q1_4, q1_5⟩ := kB5.cells6
    have l1 := kB5.lt
    obtain ⟨q2_0, q2_1, q2_2, q2_3, q2_4, q2_5⟩ := kX5.cells6
    have l2 := kX5.lt
    have ox15 := own_mono (B' := w4.heap.size) hown5 (by first | exact Nat.le_refl _ | (simp only [World.size_alloc]; omega) | omega)
    have uox1 := hid (own_upto ox15)
    clear hown5
    go_wp2_with fail
    refine (HI.out _ _ _ _ _ _ (own_ps_at (ox05.alloc _)) (own_ps_at (ox15.alloc _)) (Nat.le_refl _)).mono ?_
    rintro e w6 ⟨AG0, cG0, rfl, hrG0, hb6⟩
    have hz6 : w5.heap.size ≤ w6.heap.size := by have := hb6.size; first | exact this | (simp only [World.size_alloc] at this; omega)
    have kA6 := (kA5.alloc _).on hb6
    have kB6 := (kB5.alloc _).on hb6
    have kX6 := (kX5.alloc _).on hb6
    have kY6 := (Blk.new _ 33 #[.int .i64 j.o, .int .i64 j.l, .int .i64 j.m, .slice (some ⟨gx1, 0, none⟩) j.ps.length j.ps.length, .int .i64 j.base, .int .i64 j.last]).on hb6
    have oW06 := own_on (oW05.alloc _) hb6
    have ox06 := own_on (ox05.alloc _) hb6
    have ox16 := own_on (ox15.alloc _) hb6
    have hB6 : Below w.heap.size w w6 := by (repeat (first | with_reducible (first | assumption | exact Below.refl _ _ | refine bel_alloc ?_ _ | refine bel_drew ?_ | refine bel_drewN ?_ _ | refine bel_set ?_ (by first | omega | (simp; done) | (simp; omega)) _ | refine bel_trans ?_ (by assumption)) | assumption | refine bel_trans ?_ (by assumption)))
    clear kA5 kB5 kX5 oW05 ox05 ox15 q0_0 q0_1 q0_2 q0_3 q0_4 q0_5 l0 q1_0 q1_1 q1_2 q1_3 q1_4 q1_5 l1 q2_0 q2_1 q2_2 q2_3 q2_4 q2_5 l2 hb6 hB5
    obtain ⟨q0_0, q0_1, q0_2, q0_3, q0_4, q0_5⟩ := kA6.cells6
    have l0 := kA6.lt
    obtain ⟨q1_0, q1_1, q1_2, q1_3, q1_4, q1_5⟩ := kB6.cells6
    have l1 := kB6.lt
    obtain ⟨q2_0, q2_1, q2_2, q2_3, q2_4, q2_5⟩ := kX6.cells6
    have l2 := kX6.lt
    obtain ⟨q3_0, q3_1, q3_2, q3_3, q3_4, q3_5⟩ := kY6.cells6
    have l3 := kY6.lt
    have oG06 := own_mono (B' := w5.heap.size) hrG0 (by first | exact Nat.le_refl _ | (simp only [World.size_alloc]; omega) | omega)
    have uoG0 := hid (own_upto oG06)
    clear hrG0
    go_wp2_with fail
    refine (c_eqStringS _ _ _ _ R _ _ _ (own_strs_at oG06) (own_strs_at oW06) (Nat.le_refl _) (Nat.le_refl _) hl0).mono ?_
    rintro e w7 ⟨rfl, hb7⟩
    have hz7 : w6.heap.size ≤ w7.heap.size := by have := hb7.size; first | exact this | (simp only [World.size_alloc] at this; omega)
    have kA7 := kA6.on hb7
    have kB7 := kB6.on hb7
    have kX7 := kX6.on hb7
    have kY7 := kY6.on hb7
    have oW07 := own_on oW06 hb7
    have ox07 := own_on ox06 hb7
    have ox17 := own_on ox16 hb7
    have oG07 := own_on oG06 hb7
    have hB7 : Below w.heap.size w w7 := by (repeat (first | with_reducible (first | assumption | exact Below.refl _ _ | refine bel_alloc ?_ _ | refine bel_drew ?_ | refine bel_drewN ?_ _ | refine bel_set ?_ (by first | omega | (simp; done) | (simp; omega)) _ | refine bel_trans ?_ (by assumption)) | assumption | refine bel_trans ?_ (by assumption)))
    clear kA6 kB6 kX6 kY6 oW06 ox06 ox16 oG06 q0_0 q0_1 q0_2 q0_3 q0_4 q0_5 l0 q1_0 q1_1 q1_2 q1_3 q1_4 q1_5 l1 q2_0 q2_1 q2_2 q2_3 q2_4 q2_5 l2 q3_0 q3_1 q3_2 q3_3 q3_4 q3_5 l3 hb7 hB6
    obtain ⟨q0_0, q0_1, q0_2, q0_3, q0_4, q0_5⟩ := kA7.cells6
    have l0 := kA7.lt
    obtain ⟨q1_0, q1_1, q1_2, q1_3, q1_4, q1_5⟩ := kB7.cells6
    have l1 := kB7.lt
    obtain ⟨q2_0, q2_1, q2_2, q2_3, q2_4, q2_5⟩ := kX7.cells6
    have l2 := kX7.lt
    obtain ⟨q3_0, q3_1, q3_2, q3_3, q3_4, q3_5⟩ := kY7.cells6
    have l3 := kY7.lt
    go_wp2_with fail
    have hS := held12 kA7.cells6 kX7.cells6 (Below.refl w7.heap.size w7)
    refine wp_region_noPanic ?_
    refine wp_region_held_drew (S := (fun v => v.cell? ⟨w.heap.size, 0, none⟩ = some (.int .i64 k.o) ∧ v.cell? ⟨w.heap.size, 1, none⟩ = some (.int .i64 k.l) ∧ v.cell? ⟨w.heap.size, 2, none⟩ = some (.int .i64 k.m) ∧ v.cell? ⟨w.heap.size, 3, none⟩ = some (.slice Ak k.ps.length capk) ∧ v.cell? ⟨w.heap.size, 4, none⟩ = some (.int .i64 k.base) ∧ v.cell? ⟨w.heap.size, 5, none⟩ = some (.int .i64 k.last) ∧ v.cell? ⟨w4.heap.size, 0, none⟩ = some (.int .i64 k.o) ∧ v.cell? ⟨w4.heap.size, 1, none⟩ = some (.int .i64 k.l) ∧ v.cell? ⟨w4.heap.size, 2, none⟩ = some (.int .i64 k.m) ∧ v.cell? ⟨w4.heap.size, 3, none⟩ = some (.slice (some ⟨gx0, 0, none⟩) k.ps.length k.ps.length) ∧ v.cell? ⟨w4.heap.size, 4, none⟩ = some (.int .i64 k.base) ∧ v.cell? ⟨w4.heap.size, 5, none⟩ = some (.int .i64 k.last) ∧ Below w7.heap.size w7 v)) (by kernel_rfl) (s12_drew hS) (fun hHeld => ?_)
    refine tk 0 ?_
    refine tk 1 ?_
    refine wpAnyH_ready (rs := [2]) (by kernel_rfl) (by simp) ?_
    refine AllReadyH.cons (o := ?or2_2) ?ir2_2 (fun K hK => ?sr2_2) AllReadyH.nil
    case ir2_2 => (simp only [List.getElem?_toArray, List.getElem?_cons_succ, List.getElem?_cons_zero]; rfl)
    (first | (go_simp; (first | (go_at_call 7; refine (c_toKnown k Ak capk w.heap.size _ (HPk.out.below (bel_trans hB7 hHeld.2.2.2.2.2.2.2.2.2.2.2.2) (Nat.le_refl _)) (bel_trans hB7 hHeld.2.2.2.2.2.2.2.2.2.2.2.2).size hnk).mono ?_; rintro e wt8 ⟨gt8, rfl, hownt8, hbt8⟩) | (go_at_call 10; refine (c_eqKnown k _ _ _ _ w7.heap.size _ _ ((own_ps_at ox07).below hHeld.2.2.2.2.2.2.2.2.2.2.2.2 (Nat.le_refl _)) (own_ps_at hownt8) (hHeld.2.2.2.2.2.2.2.2.2.2.2.2).size (Nat.le_refl _) hnk).mono ?_; rintro e w8 ⟨rfl, hbq8⟩) | skip)))
    refine hK.out _ _ ?kr2_2 (fun hHeld => ?_)
    case kr2_2 => (try dsimp only); (first | with_reducible assumption | exact s12_bel (by assumption) (by assumption) | assumption | exact s12_alloc (by assumption) _)
    clear hK K
    try simp only [Act.put, List.setIfInBounds_toArray, List.set_cons_zero, List.set_cons_succ]
    refine wpAnyH_ready (rs := [3]) (by kernel_rfl) (by simp) ?_
    refine AllReadyH.cons (o := ?or2_3) ?ir2_3 (fun K hK => ?sr2_3) AllReadyH.nil
    case ir2_3 => (simp only [List.getElem?_toArray, List.getElem?_cons_succ, List.getElem?_cons_zero]; rfl)
    (first | (go_simp; (first | (go_at_call 7; refine (c_toKnown k Ak capk w.heap.size _ (HPk.out.below (bel_trans hB7 hHeld.2.2.2.2.2.2.2.2.2.2.2.2) (Nat.le_refl _)) (bel_trans hB7 hHeld.2.2.2.2.2.2.2.2.2.2.2.2).size hnk).mono ?_; rintro e wt8 ⟨gt8, rfl, hownt8, hbt8⟩) | (go_at_call 10; refine (c_eqKnown k _ _ _ _ w7.heap.size _ _ ((own_ps_at ox07).below hHeld.2.2.2.2.2.2.2.2.2.2.2.2 (Nat.le_refl _)) (own_ps_at hownt8) (hHeld.2.2.2.2.2.2.2.2.2.2.2.2).size (Nat.le_refl _) hnk).mono ?_; rintro e w8 ⟨rfl, hbq8⟩) | skip)))
    refine hK.out _ _ ?kr2_3 (fun hHeld => ?_)
    case kr2_3 => (try dsimp only); (first | with_reducible assumption | exact s12_bel (by assumption) (by assumption) | assumption | exact s12_alloc (by assumption) _)
    clear hK K
    try simp only [Act.put, List.setIfInBounds_toArray, List.set_cons_zero, List.set_cons_succ]
    refine tk 4 ?_
    refine wpAnyH_done (by kernel_rfl) ?_ _
    refine NoPanic.normal ?_
    have hb8 := hHeld.2.2.2.2.2.2.2.2.2.2.2.2
    clear hHeld hS hbq8 hbt8 hownt8
    have hz8 : w7.heap.size ≤ w8.heap.size := by have := hb8.size; first | exact this | (simp only [World.size_alloc] at this; omega)
    have kA8 := kA7.on hb8
    have kB8 := kB7.on hb8
    have kX8 := kX7.on hb8
    have kY8 := kY7.on hb8
    have oW08 := own_on oW07 hb8
    have ox08 := own_on ox07 hb8
    have ox18 := own_on ox17 hb8
    have oG08 := own_on oG07 hb8
    have hB8 : Below w.heap.size w w8 := by (repeat (first | with_reducible (first | assumption | exact Below.refl _ _ | refine bel_alloc ?_ _ | refine bel_drew ?_ | refine bel_drewN ?_ _ | refine bel_set ?_ (by first | omega | (simp; done) | (simp; omega)) _ | refine bel_trans ?_ (by assumption)) | assumption | refine bel_trans ?_ (by assumption)))
    clear kA7 kB7 kX7 kY7 oW07 ox07 ox17 oG07 q0_0 q0_1 q0_2 q0_3 q0_4 q0_5 l0 q1_0 q1_1 q1_2 q1_3 q1_4 q1_5 l1 q2_0 q2_1 q2_2 q2_3 q2_4 q2_5 l2 q3_0 q3_1 q3_2 q3_3 q3_4 q3_5 l3 hb8 hB7
    obtain ⟨q0_0, q0_1, q0_2, q0_3, q0_4, q0_5⟩ := kA8.cells6
    have l0 := kA8.lt
    obtain ⟨q1_0, q1_1, q1_2, q1_3, q1_4, q1_5⟩ := kB8.cells6
    have l1 := kB8.lt
    obtain ⟨q2_0, q2_1, q2_2, q2_3, q2_4, q2_5⟩ := kX8.cells6
    have l2 := kX8.lt
    obtain ⟨q3_0, q3_1, q3_2, q3_3, q3_4, q3_5⟩ := kY8.cells6
    have l3 := kY8.lt
    go_wp2_with fail
    have hS := held12 kB8.cells6 kY8.cells6 (Below.refl w8.heap.size w8)
    refine wp_region_noPanic ?_
    refine wp_region_held_drew (S := (fun v => v.cell? ⟨w.heap.size + 1, 0, none⟩ = some (.int .i64 j.o) ∧ v.cell? ⟨w.heap.size + 1, 1, none⟩ = some (.int .i64 j.l) ∧ v.cell? ⟨w.heap.size + 1, 2, none⟩ = some (.int .i64 j.m) ∧ v.cell? ⟨w.heap.size + 1, 3, none⟩ = some (.slice Aj j.ps.length capj) ∧ v.cell? ⟨w.heap.size + 1, 4, none⟩ = some (.int .i64 j.base) ∧ v.cell? ⟨w.heap.size + 1, 5, none⟩ = some (.int .i64 j.last) ∧ v.cell? ⟨w5.heap.size, 0, none⟩ = some (.int .i64 j.o) ∧ v.cell? ⟨w5.heap.size, 1, none⟩ = some (.int .i64 j.l) ∧ v.cell? ⟨w5.heap.size, 2, none⟩ = some (.int .i64 j.m) ∧ v.cell? ⟨w5.heap.size, 3, none⟩ = some (.slice (some ⟨gx1, 0, none⟩) j.ps.length j.ps.length) ∧ v.cell? ⟨w5.heap.size, 4, none⟩ = some (.int .i64 j.base) ∧ v.cell? ⟨w5.heap.size, 5, none⟩ = some (.int .i64 j.last) ∧ Below w8.heap.size w8 v)) (by kernel_rfl) (s12_drew hS) (fun hHeld => ?_)
    refine tk 0 ?_
    refine tk 1 ?_
    refine wpAnyH_ready (rs := [2]) (by kernel_rfl) (by simp) ?_
    refine AllReadyH.cons (o := ?or3_2) ?ir3_2 (fun K hK => ?sr3_2) AllReadyH.nil
    case ir3_2 => (simp only [List.getElem?_toArray, List.getElem?_cons_succ, List.getElem?_cons_zero]; rfl)
    (first | (go_simp; (first | (go_at_call 7; refine (c_toKnown j Aj capj w.heap.size _ (HPj.out.below (bel_trans hB8 hHeld.2.2.2.2.2.2.2.2.2.2.2.2) (Nat.le_refl _)) (bel_trans hB8 hHeld.2.2.2.2.2.2.2.2.2.2.2.2).size hnj).mono ?_; rintro e wt9 ⟨gt9, rfl, hownt9, hbt9⟩) | (go_at_call 10; refine (c_eqKnown j _ _ _ _ w8.heap.size _ _ ((own_ps_at ox18).below hHeld.2.2.2.2.2.2.2.2.2.2.2.2 (Nat.le_refl _)) (own_ps_at hownt9) (hHeld.2.2.2.2.2.2.2.2.2.2.2.2).size (Nat.le_refl _) hnj).mono ?_; rintro e w9 ⟨rfl, hbq9⟩) | skip)))
    refine hK.out _ _ ?kr3_2 (fun hHeld => ?_)
    case kr3_2 => (try dsimp only); (first | with_reducible assumption | exact s12_bel (by assumption) (by assumption) | assumption | exact s12_alloc (by assumption) _)
    clear hK K
    try simp only [Act.put, List.setIfInBounds_toArray, List.set_cons_zero, List.set_cons_succ]
    refine wpAnyH_ready (rs := [3]) (by kernel_rfl) (by simp) ?_
    refine AllReadyH.cons (o := ?or3_3) ?ir3_3 (fun K hK => ?sr3_3) AllReadyH.nil
    case ir3_3 => (simp only [List.getElem?_toArray, List.getElem?_cons_succ, List.getElem?_cons_zero]; rfl)
    (first | (go_simp; (first | (go_at_call 7; refine (c_toKnown j Aj capj w.heap.size _ (HPj.out.below (bel_trans hB8 hHeld.2.2.2.2.2.2.2.2.2.2.2.2) (Nat.le_refl _)) (bel_trans hB8 hHeld.2.2.2.2.2.2.2.2.2.2.2.2).size hnj).mono ?_; rintro e wt9 ⟨gt9, rfl, hownt9, hbt9⟩) | (go_at_call 10; refine (c_eqKnown j _ _ _ _ w8.heap.size _ _ ((own_ps_at ox18).below hHeld.2.2.2.2.2.2.2.2.2.2.2.2 (Nat.le_refl _)) (own_ps_at hownt9) (hHeld.2.2.2.2.2.2.2.2.2.2.2.2).size (Nat.le_refl _) hnj).mono ?_; rintro e w9 ⟨rfl, hbq9⟩) | skip)))
    refine hK.out _ _ ?kr3_3 (fun hHeld => ?_)
    case kr3_3 => (try dsimp only); (first | with_reducible assumption | exact s12_bel (by assumption) (by assumption) | assumption | exact s12_alloc (by assumption) _)
    clear hK K
    try simp only [Act.put, List.setIfInBounds_toArray, List.set_cons_zero, List.set_cons_succ]
    refine tk 4 ?_
    refine wpAnyH_done (by kernel_rfl) ?_ _
    refine NoPanic.normal ?_
    have hb9 := hHeld.2.2.2.2.2.2.2.2.2.2.2.2
    clear hHeld hS hbq9 hbt9 hownt9
    have hz9 : w8.heap.size ≤ w9.heap.size := by have := hb9.size; first | exact this | (simp only [World.size_alloc] at this; omega)
    have kA9 := kA8.on hb9
    have kB9 := kB8.on hb9
    have kX9 := kX8.on hb9
    have kY9 := kY8.on hb9
    have oW09 := own_on oW08 hb9
    have ox09 := own_on ox08 hb9
    have ox19 := own_on ox18 hb9
    have oG09 := own_on oG08 hb9
    have hB9 : Below w.heap.size w w9 := by (repeat (first | with_reducible (first | assumption | exact Below.refl _ _ | refine bel_alloc ?_ _ | refine bel_drew ?_ | refine bel_drewN ?_ _ | refine bel_set ?_ (by first | omega | (simp; done) | (simp; omega)) _ | refine bel_trans ?_ (by assumption)) | assumption | refine bel_trans ?_ (by assumption)))
    clear kA8 kB8 kX8 kY8 oW08 ox08 ox18 oG08 q0_0 q0_1 q0_2 q0_3 q0_4 q0_5 l0 q1_0 q1_1 q1_2 q1_3 q1_4 q1_5 l1 q2_0 q2_1 q2_2 q2_3 q2_4 q2_5 l2 q3_0 q3_1 q3_2 q3_3 q3_4 q3_5 l3 hb9 hB8
    obtain ⟨q0_0, q0_1, q0_2, q0_3, q0_4, q0_5⟩ := kA9.cells6
    have l0 := kA9.lt
    obtain ⟨q1_0, q1_1, q1_2, q1_3, q1_4, q1_5⟩ := kB9.cells6
    have l1 := kB9.lt
    obtain ⟨q2_0, q2_1, q2_2, q2_3, q2_4, q2_5⟩ := kX9.cells6
    have l2 := kX9.lt
    obtain ⟨q3_0, q3_1, q3_2, q3_3, q3_4, q3_5⟩ := kY9.cells6
    have l3 := kY9.lt
    go_wp2_with fail
    refine (c_markKnown_any k _ _ _ _ (ox09) (by first | omega | (simp only [World.size_alloc]; omega)) hnk).mono ?_
    rintro e w10 ⟨rfl, hown10, hg10⟩
    have hz10 : w9.heap.size ≤ w10.heap.size := by have := hg10.size; first | exact this | (simp only [World.size_alloc] at this; omega)
    have kA10 := box_apart kA9 ox09 (by decide) hg10
    have kB10 := box_apart kB9 ox09 (by decide) hg10
    have kX10 := box_apart kX9 ox09 (by decide) hg10
    have kY10 := box_apart kY9 ox09 (by decide) hg10
    have oW010 := oW09.kept hg10 (own_apart oW09 ox09 (by decide))
    have ox010 := hown10
    have ox110 := ox19.kept hg10 (sep_turn (sep_old uox0.out ox19 (by omega)))
    have oG010 := oG09.kept hg10 (own_apart oG09 ox09 (by decide))
    have hB10 : Below w.heap.size w w10 := bel_grow (by (repeat (first | with_reducible (first | assumption | exact Below.refl _ _ | refine bel_alloc ?_ _ | refine bel_drew ?_ | refine bel_drewN ?_ _ | refine bel_set ?_ (by first | omega | (simp; done) | (simp; omega)) _ | refine bel_trans ?_ (by assumption)) | assumption | refine bel_trans ?_ (by assumption)))) ox09 (by omega) hg10
    clear kA9 kB9 kX9 kY9 oW09 ox09 ox19 oG09 q0_0 q0_1 q0_2 q0_3 q0_4 q0_5 l0 q1_0 q1_1 q1_2 q1_3 q1_4 q1_5 l1 q2_0 q2_1 q2_2 q2_3 q2_4 q2_5 l2 q3_0 q3_1 q3_2 q3_3 q3_4 q3_5 l3 hown10 hg10 hB9
    obtain ⟨q0_0, q0_1, q0_2, q0_3, q0_4, q0_5⟩ := kA10.cells6
    have l0 := kA10.lt
    obtain ⟨q1_0, q1_1, q1_2, q1_3, q1_4, q1_5⟩ := kB10.cells6
    have l1 := kB10.lt
    obtain ⟨q2_0, q2_1, q2_2, q2_3, q2_4, q2_5⟩ := kX10.cells6
    have l2 := kX10.lt
    obtain ⟨q3_0, q3_1, q3_2, q3_3, q3_4, q3_5⟩ := kY10.cells6
    have l3 := kY10.lt
    go_wp2_with fail
    refine (c_markKnownF_any _ (by omega) (by omega) j _ _ _ _ (ox110) (by first | omega | (simp only [World.size_alloc]; omega)) hnj).mono ?_
    rintro e w11 ⟨rfl, hown11, hg11⟩
    have hz11 : w10.heap.size ≤ w11.heap.size := by have := hg11.size; first | exact this | (simp only [World.size_alloc] at this; omega)
    have kA11 := box_apart kA10 ox110 (by decide) hg11
    have kB11 := box_apart kB10 ox110 (by decide) hg11
    have kX11 := box_apart kX10 ox110 (by decide) hg11
    have kY11 := box_apart kY10 ox110 (by decide) hg11
    have oW011 := oW010.kept hg11 (own_apart oW010 ox110 (by decide))
    have ox011 := ox010.kept hg11 (sep_old uox0.out ox110 (by omega))
    have ox111 := hown11
    have oG011 := oG010.kept hg11 (own_apart oG010 ox110 (by decide))
    have hB11 : Below w.heap.size w w11 := bel_grow (by (repeat (first | with_reducible (first | assumption | exact Below.refl _ _ | refine bel_alloc ?_ _ | refine bel_drew ?_ | refine bel_drewN ?_ _ | refine bel_set ?_ (by first | omega | (simp; done) | (simp; omega)) _ | refine bel_trans ?_ (by assumption)) | assumption | refine bel_trans ?_ (by assumption)))) ox110 (by omega) hg11
    clear kA10 kB10 kX10 kY10 oW010 ox010 ox110 oG010 q0_0 q0_1 q0_2 q0_3 q0_4 q0_5 l0 q1_0 q1_1 q1_2 q1_3 q1_4 q1_5 l1 q2_0 q2_1 q2_2 q2_3 q2_4 q2_5 l2 q3_0 q3_1 q3_2 q3_3 q3_4 q3_5 l3 hown11 hg11 hB10
    obtain ⟨q0_0, q0_1, q0_2, q0_3, q0_4, q0_5⟩ := kA11.cells6
    have l0 := kA11.lt
    obtain ⟨q1_0, q1_1, q1_2, q1_3, q1_4, q1_5⟩ := kB11.cells6
    have l1 := kB11.lt
    obtain ⟨q2_0, q2_1, q2_2, q2_3, q2_4, q2_5⟩ := kX11.cells6
    have l2 := kX11.lt
    obtain ⟨q3_0, q3_1, q3_2, q3_3, q3_4, q3_5⟩ := kY11.cells6
    have l3 := kY11.lt
    go_wp2_with fail
    refine (c_eqStringS _ _ _ _ R _ _ _ (own_strs_at oG011) (own_strs_at oW011) (Nat.le_refl _) (Nat.le_refl _) hl0).mono ?_
    rintro e w12 ⟨rfl, hb12⟩
    have hz12 : w11.heap.size ≤ w12.heap.size := by have := hb12.size; first | exact this | (simp only [World.size_alloc] at this; omega)
    have kA12 := kA11.on hb12
    have kB12 := kB11.on hb12
    have kX12 := kX11.on hb12
    have kY12 := kY11.on hb12
    have oW012 := own_on oW011 hb12
    have ox012 := own_on ox011 hb12
    have ox112 := own_on ox111 hb12
    have oG012 := own_on oG011 hb12
    have hB12 : Below w.heap.size w w12 := by (repeat (first | with_reducible (first | assumption | exact Below.refl _ _ | refine bel_alloc ?_ _ | refine bel_drew ?_ | refine bel_drewN ?_ _ | refine bel_set ?_ (by first | omega | (simp; done) | (simp; omega)) _ | refine bel_trans ?_ (by assumption)) | assumption | refine bel_trans ?_ (by assumption)))
    clear kA11 kB11 kX11 kY11 oW011 ox011 ox111 oG011 q0_0 q0_1 q0_2 q0_3 q0_4 q0_5 l0 q1_0 q1_1 q1_2 q1_3 q1_4 q1_5 l1 q2_0 q2_1 q2_2 q2_3 q2_4 q2_5 l2 q3_0 q3_1 q3_2 q3_3 q3_4 q3_5 l3 hb12 hB11
    obtain ⟨q0_0, q0_1, q0_2, q0_3, q0_4, q0_5⟩ := kA12.cells6
    have l0 := kA12.lt
    obtain ⟨q1_0, q1_1, q1_2, q1_3, q1_4, q1_5⟩ := kB12.cells6
    have l1 := kB12.lt
    obtain ⟨q2_0, q2_1, q2_2, q2_3, q2_4, q2_5⟩ := kX12.cells6
    have l2 := kX12.lt
    obtain ⟨q3_0, q3_1, q3_2, q3_3, q3_4, q3_5⟩ := kY12.cells6
    have l3 := kY12.lt
    go_wp2_with fail
    refine (c_markStringS_any R _ _ _ _ (oG012) hl0).mono ?_
    rintro e w13 ⟨rfl, hown13, hg13⟩
    have hz13 : w12.heap.size ≤ w13.heap.size := by have := hg13.size; first | exact this | (simp only [World.size_alloc] at this; omega)
    have kA13 := box_apart kA12 oG012 (by decide) hg13
    have kB13 := box_apart kB12 oG012 (by decide) hg13
    have kX13 := box_apart kX12 oG012 (by decide) hg13
    have kY13 := box_apart kY12 oG012 (by decide) hg13
    have oW013 := oW012.kept hg13 (sep_old uoW0.out oG012 (by omega))
    have ox013 := ox012.kept hg13 (own_apart ox012 oG012 (by decide))
    have ox113 := ox112.kept hg13 (own_apart ox112 oG012 (by decide))
    have oG013 := hown13
    have hB13 : Below w.heap.size w w13 := bel_grow (by (repeat (first | with_reducible (first | assumption | exact Below.refl _ _ | refine bel_alloc ?_ _ | refine bel_drew ?_ | refine bel_drewN ?_ _ | refine bel_set ?_ (by first | omega | (simp; done) | (simp; omega)) _ | refine bel_trans ?_ (by assumption)) | assumption | refine bel_trans ?_ (by assumption)))) oG012 (by omega) hg13
    clear kA12 kB12 kX12 kY12 oW012 ox012 ox112 oG012 q0_0 q0_1 q0_2 q0_3 q0_4 q0_5 l0 q1_0 q1_1 q1_2 q1_3 q1_4 q1_5 l1 q2_0 q2_1 q2_2 q2_3 q2_4 q2_5 l2 q3_0 q3_1 q3_2 q3_3 q3_4 q3_5 l3 hown13 hg13 hB12
    obtain ⟨q0_0, q0_1, q0_2, q0_3, q0_4, q0_5⟩ := kA13.cells6
    have l0 := kA13.lt
    obtain ⟨q1_0, q1_1, q1_2, q1_3, q1_4, q1_5⟩ := kB13.cells6
    have l1 := kB13.lt
    obtain ⟨q2_0, q2_1, q2_2, q2_3, q2_4, q2_5⟩ := kX13.cells6
    have l2 := kX13.lt
    obtain ⟨q3_0, q3_1, q3_2, q3_3, q3_4, q3_5⟩ := kY13.cells6
    have l3 := kY13.lt
    go_wp2_with fail
    refine (c_heldStringS _ _ _ _ _ (own_strs_at oG013) (Nat.le_refl _) hl0).mono ?_
    rintro e w14 ⟨rfl, hb14⟩
    have hz14 : w13.heap.size ≤ w14.heap.size := by have := hb14.size; first | exact this | (simp only [World.size_alloc] at this; omega)
    have kA14 := kA13.on hb14
    have kB14 := kB13.on hb14
    have kX14 := kX13.on hb14
    have kY14 := kY13.on hb14
    have oW014 := own_on oW013 hb14
    have ox014 := own_on ox013 hb14
    have ox114 := own_on ox113 hb14
    have oG014 := own_on oG013 hb14
    have hB14 : Below w.heap.size w w14 := by (repeat (first | with_reducible (first | assumption | exact Below.refl _ _ | refine bel_alloc ?_ _ | refine bel_drew ?_ | refine bel_drewN ?_ _ | refine bel_set ?_ (by first | omega | (simp; done) | (simp; omega)) _ | refine bel_trans ?_ (by assumption)) | assumption | refine bel_trans ?_ (by assumption)))
    clear kA13 kB13 kX13 kY13 oW013 ox013 ox113 oG013 q0_0 q0_1 q0_2 q0_3 q0_4 q0_5 l0 q1_0 q1_1 q1_2 q1_3 q1_4 q1_5 l1 q2_0 q2_1 q2_2 q2_3 q2_4 q2_5 l2 q3_0 q3_1 q3_2 q3_3 q3_4 q3_5 l3 hb14 hB13
    obtain ⟨q0_0, q0_1, q0_2, q0_3, q0_4, q0_5⟩ := kA14.cells6
    have l0 := kA14.lt
    obtain ⟨q1_0, q1_1, q1_2, q1_3, q1_4, q1_5⟩ := kB14.cells6
    have l1 := kB14.lt
    obtain ⟨q2_0, q2_1, q2_2, q2_3, q2_4, q2_5⟩ := kX14.cells6
    have l2 := kX14.lt
    obtain ⟨q3_0, q3_1, q3_2, q3_3, q3_4, q3_5⟩ := kY14.cells6
    have l3 := kY14.lt
    go_wp2_with fail
    have hS := held12 kA14.cells6 kB14.cells6 (Below.refl w14.heap.size w14)
    refine wp_region_noPanic ?_
    refine wp_region_held_drew (S := (fun v => v.cell? ⟨w.heap.size, 0, none⟩ = some (.int .i64 k.o) ∧ v.cell? ⟨w.heap.size, 1, none⟩ = some (.int .i64 k.l) ∧ v.cell? ⟨w.heap.size, 2, none⟩ = some (.int .i64 k.m) ∧ v.cell? ⟨w.heap.size, 3, none⟩ = some (.slice Ak k.ps.length capk) ∧ v.cell? ⟨w.heap.size, 4, none⟩ = some (.int .i64 k.base) ∧ v.cell? ⟨w.heap.size, 5, none⟩ = some (.int .i64 k.last) ∧ v.cell? ⟨w.heap.size + 1, 0, none⟩ = some (.int .i64 j.o) ∧ v.cell? ⟨w.heap.size + 1, 1, none⟩ = some (.int .i64 j.l) ∧ v.cell? ⟨w.heap.size + 1, 2, none⟩ = some (.int .i64 j.m) ∧ v.cell? ⟨w.heap.size + 1, 3, none⟩ = some (.slice Aj j.ps.length capj) ∧ v.cell? ⟨w.heap.size + 1, 4, none⟩ = some (.int .i64 j.base) ∧ v.cell? ⟨w.heap.size + 1, 5, none⟩ = some (.int .i64 j.last) ∧ Below w14.heap.size w14 v)) (by kernel_rfl) (s12_drew hS) (fun hHeld => ?_)
    refine tk 0 ?_
    refine tk 2 ?_
    refine wpAnyH_ready (rs := [1]) (by kernel_rfl) (by simp) ?_
    refine AllReadyH.cons (o := ?or4_1) ?ir4_1 (fun K hK => ?sr4_1) AllReadyH.nil
    case ir4_1 => (simp only [List.getElem?_toArray, List.getElem?_cons_succ, List.getElem?_cons_zero]; rfl)
    (first | (go_simp; (first | (go_at_call 7; with_reducible refine (c_toKnown k Ak capk w.heap.size _ (HPk.out.below (bel_trans hB14 hHeld.2.2.2.2.2.2.2.2.2.2.2.2) (Nat.le_refl _)) (bel_trans hB14 hHeld.2.2.2.2.2.2.2.2.2.2.2.2).size hnk).mono ?_; rintro e wa ⟨ga, rfl, howna, hba⟩) | (go_at_call 7; with_reducible refine (c_toKnown j Aj capj w.heap.size _ (HPj.out.below (bel_trans hB14 hHeld.2.2.2.2.2.2.2.2.2.2.2.2) (Nat.le_refl _)) (bel_trans hB14 hHeld.2.2.2.2.2.2.2.2.2.2.2.2).size hnj).mono ?_; rintro e wb ⟨gb, rfl, hownb, hbb⟩) | (go_at_call 8; refine (HI.out _ _ _ _ _ _ (own_ps_at (own_on howna (by (repeat (first | with_reducible (first | assumption | exact Below.refl _ _ | refine bel_alloc ?_ _ | refine bel_drew ?_ | refine bel_drewN ?_ _ | refine bel_set ?_ (by first | omega | (simp; done) | (simp; omega)) _ | refine bel_trans ?_ (by assumption)) | assumption | refine bel_trans ?_ (by assumption)))))) (own_ps_at (own_on hownb (by (repeat (first | with_reducible (first | assumption | exact Below.refl _ _ | refine bel_alloc ?_ _ | refine bel_drew ?_ | refine bel_drewN ?_ _ | refine bel_set ?_ (by first | omega | (simp; done) | (simp; omega)) _ | refine bel_trans ?_ (by assumption)) | assumption | refine bel_trans ?_ (by assumption)))))) (Nat.le_refl _)).mono ?_; rintro e w15 ⟨AH0, cH0, rfl, oH015_, hbf15⟩; have oH015 := own_mono (B' := w14.heap.size) oH015_ (hHeld.2.2.2.2.2.2.2.2.2.2.2.2).size) | skip)))
    refine hK.out _ _ ?kr4_1 (fun hHeld => ?_)
    case kr4_1 => (try dsimp only); (first | with_reducible assumption | exact s12_bel (by assumption) (by assumption) | assumption | exact s12_alloc (by assumption) _)
    clear hK K
    try simp only [Act.put, List.setIfInBounds_toArray, List.set_cons_zero, List.set_cons_succ]
    refine wpAnyH_ready (rs := [3]) (by kernel_rfl) (by simp) ?_
    refine AllReadyH.cons (o := ?or4_3) ?ir4_3 (fun K hK => ?sr4_3) AllReadyH.nil
    case ir4_3 => (simp only [List.getElem?_toArray, List.getElem?_cons_succ, List.getElem?_cons_zero]; rfl)
    (first | (go_simp; (first | (go_at_call 7; with_reducible refine (c_toKnown k Ak capk w.heap.size _ (HPk.out.below (bel_trans hB14 hHeld.2.2.2.2.2.2.2.2.2.2.2.2) (Nat.le_refl _)) (bel_trans hB14 hHeld.2.2.2.2.2.2.2.2.2.2.2.2).size hnk).mono ?_; rintro e wa ⟨ga, rfl, howna, hba⟩) | (go_at_call 7; with_reducible refine (c_toKnown j Aj capj w.heap.size _ (HPj.out.below (bel_trans hB14 hHeld.2.2.2.2.2.2.2.2.2.2.2.2) (Nat.le_refl _)) (bel_trans hB14 hHeld.2.2.2.2.2.2.2.2.2.2.2.2).size hnj).mono ?_; rintro e wb ⟨gb, rfl, hownb, hbb⟩) | (go_at_call 8; refine (HI.out _ _ _ _ _ _ (own_ps_at (own_on howna (by (repeat (first | with_reducible (first | assumption | exact Below.refl _ _ | refine bel_alloc ?_ _ | refine bel_drew ?_ | refine bel_drewN ?_ _ | refine bel_set ?_ (by first | omega | (simp; done) | (simp; omega)) _ | refine bel_trans ?_ (by assumption)) | assumption | refine bel_trans ?_ (by assumption)))))) (own_ps_at (own_on hownb (by (repeat (first | with_reducible (first | assumption | exact Below.refl _ _ | refine bel_alloc ?_ _ | refine bel_drew ?_ | refine bel_drewN ?_ _ | refine bel_set ?_ (by first | omega | (simp; done) | (simp; omega)) _ | refine bel_trans ?_ (by assumption)) | assumption | refine bel_trans ?_ (by assumption)))))) (Nat.le_refl _)).mono ?_; rintro e w15 ⟨AH0, cH0, rfl, oH015_, hbf15⟩; have oH015 := own_mono (B' := w14.heap.size) oH015_ (hHeld.2.2.2.2.2.2.2.2.2.2.2.2).size) | skip)))
    refine hK.out _ _ ?kr4_3 (fun hHeld => ?_)
    case kr4_3 => (try dsimp only); (first | with_reducible assumption | exact s12_bel (by assumption) (by assumption) | assumption | exact s12_alloc (by assumption) _)
    clear hK K
    try simp only [Act.put, List.setIfInBounds_toArray, List.set_cons_zero, List.set_cons_succ]
    refine wpAnyH_ready (rs := [4]) (by kernel_rfl) (by simp) ?_
    refine AllReadyH.cons (o := ?or4_4) ?ir4_4 (fun K hK => ?sr4_4) AllReadyH.nil
    case ir4_4 => (simp only [List.getElem?_toArray, List.getElem?_cons_succ, List.getElem?_cons_zero]; rfl)
    (first | (go_simp; (first | (go_at_call 7; with_reducible refine (c_toKnown k Ak capk w.heap.size _ (HPk.out.below (bel_trans hB14 hHeld.2.2.2.2.2.2.2.2.2.2.2.2) (Nat.le_refl _)) (bel_trans hB14 hHeld.2.2.2.2.2.2.2.2.2.2.2.2).size hnk).mono ?_; rintro e wa ⟨ga, rfl, howna, hba⟩) | (go_at_call 7; with_reducible refine (c_toKnown j Aj capj w.heap.size _ (HPj.out.below (bel_trans hB14 hHeld.2.2.2.2.2.2.2.2.2.2.2.2) (Nat.le_refl _)) (bel_trans hB14 hHeld.2.2.2.2.2.2.2.2.2.2.2.2).size hnj).mono ?_; rintro e wb ⟨gb, rfl, hownb, hbb⟩) | (go_at_call 8; refine (HI.out _ _ _ _ _ _ (own_ps_at (own_on howna (by (repeat (first | with_reducible (first | assumption | exact Below.refl _ _ | refine bel_alloc ?_ _ | refine bel_drew ?_ | refine bel_drewN ?_ _ | refine bel_set ?_ (by first | omega | (simp; done) | (simp; omega)) _ | refine bel_trans ?_ (by assumption)) | assumption | refine bel_trans ?_ (by assumption)))))) (own_ps_at (own_on hownb (by (repeat (first | with_reducible (first | assumption | exact Below.refl _ _ | refine bel_alloc ?_ _ | refine bel_drew ?_ | refine bel_drewN ?_ _ | refine bel_set ?_ (by first | omega | (simp; done) | (simp; omega)) _ | refine bel_trans ?_ (by assumption)) | assumption | refine bel_trans ?_ (by assumption)))))) (Nat.le_refl _)).mono ?_; rintro e w15 ⟨AH0, cH0, rfl, oH015_, hbf15⟩; have oH015 := own_mono (B' := w14.heap.size) oH015_ (hHeld.2.2.2.2.2.2.2.2.2.2.2.2).size) | skip)))
    refine hK.out _ _ ?kr4_4 (fun hHeld => ?_)
    case kr4_4 => (try dsimp only); (first | with_reducible assumption | exact s12_bel (by assumption) (by assumption) | assumption | exact s12_alloc (by assumption) _)
    clear hK K
    try simp only [Act.put, List.setIfInBounds_toArray, List.set_cons_zero, List.set_cons_succ]
    refine tk 5 ?_
    refine wpAnyH_done (by kernel_rfl) ?_ _
    refine NoPanic.normal ?_
    all_goals
      have hb15 := hHeld.2.2.2.2.2.2.2.2.2.2.2.2
      clear hHeld hS hbf15 hba hbb howna hownb oH015_
      have hz15 : w14.heap.size ≤ w15.heap.size := by have := hb15.size; first | exact this | (simp only [World.size_alloc] at this; omega)
      have kA15 := kA14.on hb15
      have kB15 := kB14.on hb15
      have kX15 := kX14.on hb15
      have kY15 := kY14.on hb15
      have oW015 := own_on oW014 hb15
      have ox015 := own_on ox014 hb15
      have ox115 := own_on ox114 hb15
      have oG015 := own_on oG014 hb15
      have hB15 : Below w.heap.size w w15 := by (repeat (first | with_reducible (first | assumption | exact Below.refl _ _ | refine bel_alloc ?_ _ | refine bel_drew ?_ | refine bel_drewN ?_ _ | refine bel_set ?_ (by first | omega | (simp; done) | (simp; omega)) _ | refine bel_trans ?_ (by assumption)) | assumption | refine bel_trans ?_ (by assumption)))
      clear kA14 kB14 kX14 kY14 oW014 ox014 ox114 oG014 q0_0 q0_1 q0_2 q0_3 q0_4 q0_5 l0 q1_0 q1_1 q1_2 q1_3 q1_4 q1_5 l1 q2_0 q2_1 q2_2 q2_3 q2_4 q2_5 l2 q3_0 q3_1 q3_2 q3_3 q3_4 q3_5 l3 hb15 hB14
      obtain ⟨q0_0, q0_1, q0_2, q0_3, q0_4, q0_5⟩ := kA15.cells6
      have l0 := kA15.lt
      obtain ⟨q1_0, q1_1, q1_2, q1_3, q1_4, q1_5⟩ := kB15.cells6
      have l1 := kB15.lt
      obtain ⟨q2_0, q2_1, q2_2, q2_3, q2_4, q2_5⟩ := kX15.cells6
      have l2 := kX15.lt
      obtain ⟨q3_0, q3_1, q3_2, q3_3, q3_4, q3_5⟩ := kY15.cells6
      have l3 := kY15.lt
      have uoH0 := hid (own_upto oH015)
      go_wp2_with fail
      refine (c_eqStringS _ _ _ _ R _ _ _ (own_strs_at oH015) (own_strs_at oW015) (Nat.le_refl _) (Nat.le_refl _) hl0).mono ?_
      rintro e w16 ⟨rfl, hb16⟩
      have hz16 : w15.heap.size ≤ w16.heap.size := by have := hb16.size; first | exact this | (simp only [World.size_alloc] at this; omega)
      have kA16 := kA15.on hb16
      have kB16 := kB15.on hb16
      have kX16 := kX15.on hb16
      have kY16 := kY15.on hb16
      have oW016 := own_on oW015 hb16
      have ox016 := own_on ox015 hb16
      have ox116 := own_on ox115 hb16
      have oG016 := own_on oG015 hb16
      have oH016 := own_on oH015 hb16
      have hB16 : Below w.heap.size w w16 := by (repeat (first | with_reducible (first | assumption | exact Below.refl _ _ | refine bel_alloc ?_ _ | refine bel_drew ?_ | refine bel_drewN ?_ _ | refine bel_set ?_ (by first | omega | (simp; done) | (simp; omega)) _ | refine bel_trans ?_ (by assumption)) | assumption | refine bel_trans ?_ (by assumption)))
      clear kA15 kB15 kX15 kY15 oW015 ox015 ox115 oG015 oH015 q0_0 q0_1 q0_2 q0_3 q0_4 q0_5 l0 q1_0 q1_1 q1_2 q1_3 q1_4 q1_5 l1 q2_0 q2_1 q2_2 q2_3 q2_4 q2_5 l2 q3_0 q3_1 q3_2 q3_3 q3_4 q3_5 l3 hb16 hB15
      obtain ⟨q0_0, q0_1, q0_2, q0_3, q0_4, q0_5⟩ := kA16.cells6
      have l0 := kA16.lt
      obtain ⟨q1_0, q1_1, q1_2, q1_3, q1_4, q1_5⟩ := kB16.cells6
      have l1 := kB16.lt
      obtain ⟨q2_0, q2_1, q2_2, q2_3, q2_4, q2_5⟩ := kX16.cells6
      have l2 := kX16.lt
      obtain ⟨q3_0, q3_1, q3_2, q3_3, q3_4, q3_5⟩ := kY16.cells6
      have l3 := kY16.lt
      go_wp2_with fail
      refine (c_heldStringS _ _ _ _ _ (own_strs_at oG016) (Nat.le_refl _) hl0).mono ?_
      rintro e w17 ⟨rfl, hb17⟩
      have hz17 : w16.heap.size ≤ w17.heap.size := by have := hb17.size; first | exact this | (simp only [World.size_alloc] at this; omega)
      have kA17 := kA16.on hb17
      have kB17 := kB16.on hb17
      have kX17 := kX16.on hb17
      have kY17 := kY16.on hb17
      have oW017 := own_on oW016 hb17
      have ox017 := own_on ox016 hb17
      have ox117 := own_on ox116 hb17
      have oG017 := own_on oG016 hb17
      have oH017 := own_on oH016 hb17
      have hB17 : Below w.heap.size w w17 := by (repeat (first | with_reducible (first | assumption | exact Below.refl _ _ | refine bel_alloc ?_ _ | refine bel_drew ?_ | refine bel_drewN ?_ _ | refine bel_set ?_ (by first | omega | (simp; done) | (simp; omega)) _ | refine bel_trans ?_ (by assumption)) | assumption | refine bel_trans ?_ (by assumption)))
      clear kA16 kB16 kX16 kY16 oW016 ox016 ox116 oG016 oH016 q0_0 q0_1 q0_2 q0_3 q0_4 q0_5 l0 q1_0 q1_1 q1_2 q1_3 q1_4 q1_5 l1 q2_0 q2_1 q2_2 q2_3 q2_4 q2_5 l2 q3_0 q3_1 q3_2 q3_3 q3_4 q3_5 l3 hb17 hB16
      obtain ⟨q0_0, q0_1, q0_2, q0_3, q0_4, q0_5⟩ := kA17.cells6
      have l0 := kA17.lt
      obtain ⟨q1_0, q1_1, q1_2, q1_3, q1_4, q1_5⟩ := kB17.cells6
      have l1 := kB17.lt
      obtain ⟨q2_0, q2_1, q2_2, q2_3, q2_4, q2_5⟩ := kX17.cells6
      have l2 := kX17.lt
      obtain ⟨q3_0, q3_1, q3_2, q3_3, q3_4, q3_5⟩ := kY17.cells6
      have l3 := kY17.lt
      go_wp2
      go_ret
      exact ⟨rfl, by (repeat (first | with_reducible (first | assumption | exact Below.refl _ _ | refine bel_alloc ?_ _ | refine bel_drew ?_ | refine bel_drewN ?_ _ | refine bel_set ?_ (by first | omega | (simp; done) | (simp; omega)) _ | refine bel_trans ?_ (by assumption)) | assumption | refine bel_trans ?_ (by assumption)))⟩

end Go.Proofs.Ytgaihfmopenfeaa
