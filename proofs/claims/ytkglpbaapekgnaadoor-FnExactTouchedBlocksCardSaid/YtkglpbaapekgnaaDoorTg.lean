/- TouchedBlocks in the program. The layout of the header and the errors are as the program's text lays them. -/
import Derived.Test.YtkglpbaapekgnaaDoorTc
import Derived.Test.YtkglpbaapekgnaaDoorTf
import Derived.BigQuiet
namespace Go.Proofs.YtkglpbaapekgnaaDoor
open Go.ChangeShapes Go.WideShapes Go.ChangeAt Go.RowKit Go.Joins
set_option linter.unusedVariables false
set_option linter.unusedSimpArgs false

/-- the block with this index has data of the range -/
def tcOk (l : List Bl) (x y : Int) (i : Nat) : Bool := decide (((zs (l.take i) : Nat) : Int) < y) && (decide (x < ((zs (l.take (i + 1)) : Nat) : Int)) && decide (x < y))
def tcs (l : List Bl) (x y : Int) (k : Nat) : List Int := ((List.range k).filter (tcOk l x y)).map fun (i : Nat) => (i : Int)
theorem tcs_yes {l : List Bl} {x y : Int} {k : Nat} (h : tcOk l x y k = true) : tcs l x y (k + 1) = tcs l x y k ++ [(k : Int)] := by
  simp [tcs, List.range_succ, List.filter_append, h]
theorem tcs_no {l : List Bl} {x y : Int} {k : Nat} (h : tcOk l x y k = false) : tcs l x y (k + 1) = tcs l x y k := by
  simp [tcs, List.range_succ, List.filter_append, h]
theorem tcs_len (l : List Bl) (x y : Int) (k : Nat) : (tcs l x y k).length ≤ k := by
  rw [tcs, List.length_map]
  exact Nat.le_trans (List.length_filter_le _ _) (by simp)
theorem own_nl0 (W : World) (B : Nat) (hB : B ≤ W.heap.size) : (W.alloc (.cells #[] 3)).ownsRow B 3 1 (.slice (some ⟨W.heap.size, 0, none⟩) 0 0) 0 (([] : List Int).map iv) := World.ownsRow_made (e := 3) (size := 1) (base := B) W #[] 0 hB (by simp) (by simp [maxLen])
theorem pls_get (l : List Bl) (k : Nat) (h : k < l.length) : (pls l)[k]'(by rw [pls_len]; exact h) = (((txt (l.take k)).length : Int), (zs (l.take k) : Int)) := by
  simp [pls]

theorem c_reach (A1 A2 : Option Addr) (q1 q2 L k cb : Nat) (l : List Bl) (T : Int) (w : World) (z u v : Nat) (hC : Blk w cb 60 #[.slice A1 l.length q1, .slice A2 l.length q2, .int .i64 T, .int .i64 z]) (h1 : BlsAt w L A1 q1 l) (h2 : PsAt w L A2 q2 (pls l)) (hk : k < l.length) (hn : l.length ≤ 40) (hu : u = zs (l.take k)) (hv : v = zs (l.take (k + 1))) (hz : 1 ≤ l[k].z ∧ l[k].z ≤ 64) (hub : u ≤ 10000) : Calls Tryd.prog 81 #[.pointer (some ⟨cb, 0, none⟩), .int .i64 (k : Nat)] w fun e w' => e = .returned (.int .i64 (v : Int)) ∧ Below w.heap.size w w' := by
  have hv2 : v = u + l[k].z.toNat := by rw [hu, hv, zs_take_succ l k hk]
  obtain ⟨b, off, rfl, hb, hc0, hc1, hc2, hc3⟩ := bl_at h1 k hk
  obtain ⟨d, off2, rfl, hd, hd0, hd1⟩ := pq_at h2 k (by rw [pls_len]; exact hk)
  rw [pls_get l k hk] at hd1
  simp only at hd1
  rw [← hu] at hd1
  obtain ⟨m, hm⟩ : ∃ m, m = l[k].z := ⟨_, rfl⟩
  rw [← hm] at hz hc2 hv2
  obtain ⟨n, rfl⟩ := Int.eq_ofNat_of_zero_le (show 0 ≤ m by omega)
  obtain ⟨N, hN⟩ : ∃ N, N = l.length := ⟨_, rfl⟩
  rw [← hN] at hC hk hn
  obtain ⟨r0, r1, r2, r3⟩ := hC.cells4y
  clear hu hv hm hN hc0 hc1 hc3 hd0
  have hv3 : v = u + n := by omega
  clear hv2
  subst hv3
  go_enter Tryd.func81, Tryd.ntmps81
  go_wp2_with fail
  go_quiet (fail)
  go_wp2_with fail
  go_ret
  exact ⟨ret_int (by omega), by (repeat (first | with_reducible (first | assumption | exact Below.refl _ _ | refine bel_alloc ?_ _ | refine bel_drew ?_ | refine bel_drewN ?_ _ | refine bel_set ?_ (by first | omega | (simp; done) | (simp; omega)) _ | refine bel_trans ?_ (by assumption)) | assumption | refine bel_trans ?_ (by assumption)))⟩

set_option maxHeartbeats 4000000 in
set_option maxRecDepth 100000 in
theorem c_touched (A1 A2 : Option Addr) (q1 q2 L cb : Nat) (l : List Bl) (T : Int) (w : World) (z : Nat) (x y : Int) (hL : L ≤ w.heap.size) (hC : Blk w cb 60 #[.slice A1 l.length q1, .slice A2 l.length q2, .int .i64 T, .int .i64 z]) (h1 : BlsAt w L A1 q1 l) (h2 : PsAt w L A2 q2 (pls l)) (hn : l.length ≤ 40) (hz : ∀ b ∈ l, 1 ≤ b.z ∧ b.z ≤ 64) (hx : -9223372036854775808 ≤ x ∧ x ≤ 9223372036854775807) (hy : -9223372036854775808 ≤ y ∧ y ≤ 9223372036854775807) : Calls Tryd.prog 56 #[.pointer (some ⟨cb, 0, none⟩), .int .i64 x, .int .i64 y] w fun e w' => ∃ A cap, e = .returned (.slice A (tcs l x y l.length).length cap) ∧ w'.ownsRow w.heap.size 3 1 (.slice A (tcs l x y l.length).length cap) (tcs l x y l.length).length ((tcs l x y l.length).map iv) ∧ Below w.heap.size w w' := by
  obtain ⟨N, hN⟩ : ∃ N, N = l.length := ⟨_, rfl⟩
  have HN := hid hN
  have HR := hid (fun (k u v : Nat) (wr : World) (hbl : Below w.heap.size w wr) (hk : k < l.length) (hu : u = zs (l.take k)) (hv : v = zs (l.take (k + 1))) (hub : u ≤ 10000) => c_reach A1 A2 q1 q2 L k cb l T wr z u v (hC.below hbl hC.lt) (h1.below hbl hL) (h2.below hbl hL) hk hn hu hv (hz _ (List.getElem_mem hk)) hub)
  rw [← hN] at hn hC
  rw [← hN]
  have HC := hid hC
  have HP := hid h2
  obtain ⟨r0, r1, r2, r3⟩ := hC.cells4y
  clear hN hC h1 h2
  go_enter Tryd.func56, Tryd.ntmps56
  go_wp2_with fail
  clear r0 r1 r2 r3
  go_loopw [7, 15] (fun v i wr => ∃ (k u : Nat), k ≤ N ∧ i = .int .i64 k ∧ Hid (u = zs (l.take k)) ∧ u ≤ 64 * k ∧ wr.ownsRow w.heap.size 3 1 v (tcs l x y k).length ((tcs l x y k).map iv) ∧ Below w.heap.size w wr) (fun _ i _ => N - (intOf i).toNat)
  case atStart => exact ⟨0, 0, Nat.zero_le _, rfl, hid rfl, by omega, by simpa [tcs] using own_ints_nil w w.heap.size 3, by (repeat (first | with_reducible (first | assumption | exact Below.refl _ _ | refine bel_alloc ?_ _ | refine bel_drew ?_ | refine bel_drewN ?_ _ | refine bel_set ?_ (by first | omega | (simp; done) | (simp; omega)) _ | refine bel_trans ?_ (by assumption)) | assumption | refine bel_trans ?_ (by assumption)))⟩
  case round =>
    obtain ⟨k, u, hk, rfl, HU, hu, hown, hbl⟩ := hrel
    rename_i wr _
    by_cases hlt : k < N
    · have hlt2 : k < l.length := by have := HN.out; omega
      have hzk := hz _ (List.getElem_mem hlt2)
      obtain ⟨v, hv⟩ : ∃ v, v = zs (l.take (k + 1)) := ⟨_, rfl⟩
      have hv2 : v = u + l[k].z.toNat := by rw [hv, zs_take_succ l k hlt2, ← HU.out]
      obtain ⟨m, hm⟩ : ∃ m, m = l[k].z := ⟨_, rfl⟩
      rw [← hm] at hv2 hzk
      have hvb : u < v ∧ v ≤ 64 * (k + 1) := by omega
      clear hv2 hzk hm
      obtain ⟨d, off2, rfl, hd, hd0, hd1⟩ := pq_at (HP.out.below hbl hL) k (by rw [pls_len]; exact hlt2)
      rw [pls_get l k hlt2] at hd0 hd1
      simp only at hd0 hd1
      rw [← HU.out] at hd1
      obtain ⟨t, ht⟩ : ∃ t, t = (txt (l.take k)).length := ⟨_, rfl⟩
      rw [← ht] at hd0
      clear ht
      have HV := hid hv
      have HO := hid hown
      have HRK := hid (fun (wq : World) (hq : Below wr.heap.size wr wq) => HR.out k u v wq (hbl.trans (hq.mono hbl.size)) hlt2 HU.out hv (by omega))
      have hszr := hbl.size
      clear hv hown
      have hB := Blk.new wr 58 #[.int .i64 (t : Int), .int .i64 (u : Int)]
      obtain ⟨s0, s1⟩ := (Blk.new wr 58 #[.int .i64 0, .int .i64 0]).cells2
      have g0 := (Blk.new wr 58 #[.int .i64 0, .int .i64 0]).frozen 0
      have g1 := (Blk.new wr 58 #[.int .i64 0, .int .i64 0]).frozen 1
      go_wp2_with fail
      have hb1 : Below wr.heap.size wr (wr.alloc (.cells #[.int .i64 (t : Int), .int .i64 (u : Int)] 58)) := bel_alloc (Below.refl _ wr) _
      obtain ⟨W1, hW1⟩ : ∃ W1, W1 = wr.alloc (.cells #[.int .i64 (t : Int), .int .i64 (u : Int)] 58) := ⟨_, rfl⟩
      rw [← hW1] at hb1 hB ⊢
      have hz1 := hb1.size
      have HRQ := hid (fun (wq : World) (hq : Below W1.heap.size W1 wq) => HRK.out wq (hb1.trans (hq.mono hz1)))
      have hS1 : W1.cell? ⟨wr.heap.size, 1, none⟩ = some (.int .i64 (u : Int)) ∧ Below W1.heap.size W1 W1 := ⟨hB.cell 1, Below.refl _ _⟩
      clear hW1 hB s0 s1 g0 g1 hd0 hd1
      refine qbegin (S := (fun v => v.cell? ⟨wr.heap.size, 1, none⟩ = some (.int .i64 (u : Int)) ∧ Below W1.heap.size W1 v)) (by kernel_rfl) (by kernel_rfl) (s1_drew hS1) ?_
      refine qk ?_
      refine qk ?_
      refine qk ?_
      refine qk ?_
      refine qk ?_
      refine qk ?_
      refine qc (fun wq hSq => HRQ.out wq hSq.2) (fun wq wr hbr hSq => s1_bel hbr hSq) ?_
      refine qk ?_
      refine qk ?_
      refine qk ?_
      refine wpQuiet_nil ?_
      intro wq hSq
      (try dsimp only at hSq)
      have hbq := hb1.trans (hSq.2.mono hz1)
      have hblq := hbl.trans (hbq.mono hszr)
      have hownq := hid (own_on HO.out hbq)
      have hszq := hblq.size
      clear hSq hS1 hb1 hz1 hbq hbl hd HRQ HRK
      have HOK := hid (show tcOk l x y k = decide (max (u : Int) x < min (v : Int) y) by
        rw [tcOk, ← HU.out, ← HV.out]
        have h1 : (0 : Int) ≤ u ∧ (u : Int) < v := by omega
        rw [Bool.eq_iff_iff]
        simp only [Bool.and_eq_true, decide_eq_true_eq]
        omega)
      by_cases hmx : max (u : Int) x < min (v : Int) y
      · have hdm : decide (max (u : Int) x < min (v : Int) y) = true := decide_eq_true hmx
        have HS := hid (tcs_yes (HOK.out.trans hdm))
        rw [hdm]
        clear hmx hdm
        have hlen := tcs_len l x y k
        go_wp2_with (at_builtin; refine app_int rfl _ _ 42 rfl w.heap.size 3 Tryd.underlying42 Tryd.info_int _ _ (tcs l x y k) rfl hownq.out (k : Int) _ rfl 1 rfl (by omega) hszq ?_; intro v4 w4 hown4 hb4 hg4)
        rw [← HS.out] at hown4
        have hl4 : (tcs l x y k).length + 1 = (tcs l x y (k + 1)).length := by rw [HS.out, List.length_append]; rfl
        rw [hl4] at hown4
        go_roundw
        case rel => exact ⟨k + 1, v, by omega, by go_num, HV, by omega, hown4, hblq.trans hb4⟩
        case measure => simp [intOf]; omega
      · have hdm : decide (max (u : Int) x < min (v : Int) y) = false := decide_eq_false hmx
        have HS := hid (tcs_no (HOK.out.trans hdm))
        rw [hdm]
        clear hmx hdm
        go_wp2_with fail
        have hownr := hownq.out
        rw [← HS.out] at hownr
        go_roundw
        case rel => exact ⟨k + 1, v, by omega, by go_num, HV, by omega, hownr, hblq⟩
        case measure => simp [intOf]; omega
    · have hkN : k = N := by omega
      subst hkN
      obtain ⟨A, cap, rfl, -, -, -⟩ := own_ints hown
      go_wp2_with fail
      go_ret
      exact ⟨_, _, rfl, hown, hbl⟩
end Go.Proofs.YtkglpbaapekgnaaDoor
