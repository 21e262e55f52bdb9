/- Slices of places that a call owns: the laws' own helpers on them; the places of blocks in the model. No condition but that they are few. -/
import Derived.Test.YtkglpbaapekgnaaDoorTa
import Derived.Test.YtkglpbaapekgnaaDoorBb
import Derived.Deep.SlicePairs
namespace Go.Proofs.YtkglpbaapekgnaaDoor
open Go.ChangeShapes Go.WideShapes Go.ChangeAt Go.RowKit Go.Joins
set_option linter.unusedVariables false
set_option linter.unusedSimpArgs false

theorem pq_at {w : World} {L cap : Nat} {A : Option Addr} {ps : List Pr} (h : PsAt w L A cap ps) (i : Nat) (hi : i < ps.length) : ∃ b off, A = some ⟨b, off, none⟩ ∧ b < L ∧ w.cell? ⟨b, off + i * 2, none⟩ = some (.int .i64 ps[i].1) ∧ w.cell? ⟨b, off + i * 2 + 1, none⟩ = some (.int .i64 ps[i].2) := by
  obtain ⟨b, off, e, hb, hc⟩ := h.2.2.2 (by omega)
  have := hc i ps[i] (List.getElem?_eq_getElem hi)
  exact ⟨b, off, e, hb, this.1, this.2⟩

theorem own_pq {w : World} {B : Nat} {e : TypeId} {G n cap : Nat} {l : List Pr} (h : w.ownsRow B e 2 (.slice (some ⟨G, 0, none⟩) n cap) n (prs l)) (k : Nat) (p : Pr) (hk : l[k]? = some p) : w.cell? ⟨G, k * 2, none⟩ = some (.int .i64 p.1) ∧ w.cell? ⟨G, k * 2 + 1, none⟩ = some (.int .i64 p.2) := by
  have hl := h.1
  rw [prs_len] at hl
  have hk2 := get_lt hk
  have := prs_get l k p hk
  exact ⟨(h.cellAt _ (by omega)).trans this.1, (h.cellAt _ (by omega)).trans this.2⟩

theorem c_eqPlace (a b : Int) (w : World) : Calls Tryd.prog 53 #[.agg #[.int .i64 a, .int .i64 b], .agg #[.int .i64 a, .int .i64 b]] w fun e w' => e = .returned (.bool true) ∧ Below w.heap.size w w' := by
  go_enter Tryd.func53, Tryd.ntmps53
  go_wp2
  go_ret
  exact ⟨rfl, by (repeat (first | with_reducible (first | assumption | exact Below.refl _ _ | refine bel_alloc ?_ _ | refine bel_drew ?_ | refine bel_drewN ?_ _ | refine bel_set ?_ (by first | omega | (simp; done) | (simp; omega)) _ | refine bel_trans ?_ (by assumption)) | assumption | refine bel_trans ?_ (by assumption)))⟩

theorem c_eqPlaceS (A A2 : Option Addr) (cap cap2 : Nat) (ps : List Pr) (L L2 : Nat) (w : World) (h : PsAt w L A cap ps) (h2 : PsAt w L2 A2 cap2 ps) (hL : L ≤ w.heap.size) (hL2 : L2 ≤ w.heap.size) (hn : ps.length ≤ 1048576) : Calls Tryd.prog 23 #[.slice A ps.length cap, .slice A2 ps.length cap2] w fun e w' => e = .returned (.bool true) ∧ Below w.heap.size w w' := by
  go_enter Tryd.func23, Tryd.ntmps23
  go_wp2_with fail
  go_loopw [5] (fun i wr => ∃ k : Nat, k ≤ ps.length ∧ i = .int .i64 k ∧ Below w.heap.size w wr) (fun i _ => ps.length - (intOf i).toNat)
  case atStart => exact ⟨0, Nat.zero_le _, rfl, by (repeat (first | with_reducible (first | assumption | exact Below.refl _ _ | refine bel_alloc ?_ _ | refine bel_drew ?_ | refine bel_drewN ?_ _ | refine bel_set ?_ (by first | omega | (simp; done) | (simp; omega)) _ | refine bel_trans ?_ (by assumption)) | assumption | refine bel_trans ?_ (by assumption)))⟩
  case round =>
    obtain ⟨k, hk, rfl, hbl⟩ := hrel
    by_cases hlt : k < ps.length
    · obtain ⟨b, off, rfl, hb, hc0, hc1⟩ := pq_at (h.below hbl hL) k hlt
      obtain ⟨d, off2, rfl, hd, hd0, hd1⟩ := pq_at (h2.below hbl hL2) k hlt
      obtain ⟨p, hp⟩ : ∃ p, p = ps[k] := ⟨_, rfl⟩
      rw [← hp] at hc0 hc1 hd0 hd1
      clear hp
      go_wp2_with fail
      go_region_with (go_at_call 53; refine (c_eqPlace _ _ _).mono ?_; rintro e w2 ⟨rfl, hb2⟩; have hc2 := bcell hb2)
      all_goals
        go_wp2
        go_roundw
        case rel => exact ⟨k + 1, by omega, by go_num, by (repeat (first | with_reducible (first | assumption | exact Below.refl _ _ | refine bel_alloc ?_ _ | refine bel_drew ?_ | refine bel_drewN ?_ _ | refine bel_set ?_ (by first | omega | (simp; done) | (simp; omega)) _ | refine bel_trans ?_ (by assumption)) | assumption | refine bel_trans ?_ (by assumption)))⟩
        case measure => simp [intOf]; omega
    · go_wp2
      go_ret
      exact ⟨rfl, by (repeat (first | with_reducible (first | assumption | exact Below.refl _ _ | refine bel_alloc ?_ _ | refine bel_drew ?_ | refine bel_drewN ?_ _ | refine bel_set ?_ (by first | omega | (simp; done) | (simp; omega)) _ | refine bel_trans ?_ (by assumption)) | assumption | refine bel_trans ?_ (by assumption)))⟩

/-- the pairs that hold the numbers from s on -/
def mkq (n : Nat) (s : Int) : List Pr := (List.range n).map fun (i : Nat) => (s + 2 * (i : Int), s + 2 * (i : Int) + 1)
theorem mkq_len (n : Nat) (s : Int) : (mkq n s).length = n := by simp [mkq]
theorem mkq_get (n : Nat) (s : Int) (i : Nat) (h : i < n) : (mkq n s)[i]? = some (s + 2 * i, s + 2 * i + 1) := by simp [mkq, h]
theorem mkq_succ (n : Nat) (s : Int) : mkq (n + 1) s = mkq n s ++ [(s + 2 * n, s + 2 * n + 1)] := by simp [mkq, List.range_succ]

theorem c_markPlaceS (B G cap : Nat) (ps : List Pr) (w : World) (h : w.ownsRow B 58 2 (.slice (some ⟨G, 0, none⟩) ps.length cap) ps.length (prs ps)) (hn : ps.length ≤ 1048576) : Calls Tryd.prog 24 #[.slice (some ⟨G, 0, none⟩) ps.length cap, .int .i64 1] w fun e w' => e = .returned (.int .i64 (1 + 2 * ps.length)) ∧ w'.ownsRow B 58 2 (.slice (some ⟨G, 0, none⟩) ps.length cap) ps.length (prs (mkq ps.length 1)) ∧ w.grownBy w' (some G) := by
  obtain ⟨N, hN⟩ : ∃ N, N = ps.length := ⟨_, rfl⟩
  have HN := hid hN
  rw [← hN] at hn h ⊢
  clear hN
  have HH := hid h
  clear h
  go_enter Tryd.func24, Tryd.ntmps24
  go_wp2_with fail
  go_loopw [1, 5] (fun m i wr => ∃ k : Nat, k ≤ N ∧ i = .int .i64 k ∧ m = .int .i64 (1 + 2 * k) ∧ wr.ownsRow B 58 2 (.slice (some ⟨G, 0, none⟩) N cap) N (prs (mkq k 1 ++ ps.drop k)) ∧ w.grownBy wr (some G)) (fun _ i _ => N - (intOf i).toNat)
  case atStart => exact ⟨0, Nat.zero_le _, rfl, rfl, by simpa [mkq] using HH.out, grown_refl _ _⟩
  case round =>
    obtain ⟨k, hk, rfl, rfl, hown, hgr⟩ := hrel
    by_cases hlt : k < N
    · have hlt2 : k < ps.length := by have := HN.out; omega
      obtain ⟨p, hp⟩ : ∃ p, p = ps[k] := ⟨_, rfl⟩
      have HE := hid (show (mkq k 1 ++ ps.drop k)[k]? = some p by
        rw [List.getElem?_append_right (by rw [mkq_len]; omega), mkq_len, Nat.sub_self, List.getElem?_drop, Nat.add_zero, hp]; exact List.getElem?_eq_getElem hlt2)
      have HS := hid (show (mkq k 1 ++ ps.drop k).set k ((1 : Int) + 2 * k, (1 : Int) + 2 * k + 1) = mkq (k + 1) 1 ++ ps.drop (k + 1) by
        rw [List.set_append, if_neg (by rw [mkq_len]; omega), mkq_len, Nat.sub_self, List.drop_eq_getElem_cons hlt2, List.set_cons_zero, mkq_succ]; simp)
      clear hp
      obtain ⟨q0, q1⟩ := own_pq hown k _ HE.out
      have f0 := hown.frozenAt (k * 2)
      have f1 := hown.frozenAt (k * 2 + 1)
      have hst := own_store_pair hown k ((1 : Int) + 2 * k, (1 : Int) + 2 * k + 1)
      rw [HS.out] at hst
      have hst2 := grown_set (grown_set hgr (k * 2) (.int .i64 ((1 : Int) + 2 * k))) (k * 2 + 1) (.int .i64 ((1 : Int) + 2 * k + 1))
      have HT := hid (And.intro hst hst2)
      clear hst hst2 hown hgr
      go_wp2
      go_roundw
      case rel => exact ⟨k + 1, by omega, by go_num, vint (by omega), HT.out.1, HT.out.2⟩
      case measure => simp [intOf]; omega
    · have HD := hid (show mkq k 1 ++ ps.drop k = mkq N 1 by rw [show k = N from by omega, List.drop_of_length_le (by have := HN.out; omega)]; simp)
      rw [HD.out] at hown
      go_wp2
      go_ret
      exact ⟨ret_int (by omega), hown, hgr⟩

theorem c_markPlaceS_nil (w : World) : Calls Tryd.prog 24 #[.slice none 0 0, .int .i64 1] w (Same (.int .i64 1) w) := by
  go_enter Tryd.func24, Tryd.ntmps24
  go_wp2_with fail
  go_loop [1, 5] (fun m i => m = .int .i64 1 ∧ i = .int .i64 0) (fun _ i => 0)
  case atStart => exact ⟨rfl, rfl⟩
  case round =>
    obtain ⟨rfl, rfl⟩ := hrel
    go_wp2
    go_ret
    exact ⟨rfl, rfl⟩

theorem c_heldPlaceS (L : Nat) (A : Option Addr) (cap n : Nat) (w : World) (h : PsAt w L A cap (mkq n 1)) (hn : n ≤ 1048576) : Calls Tryd.prog 25 #[.slice A n cap, .int .i64 1] w (Same (.int .i64 (1 + 2 * n)) w) := by
  have HH := hid h
  clear h
  go_enter Tryd.func25, Tryd.ntmps25
  go_wp2_with fail
  go_loop [1, 5] (fun m i => ∃ k : Nat, k ≤ n ∧ i = .int .i64 k ∧ m = .int .i64 (1 + 2 * k)) (fun _ i => n - (intOf i).toNat)
  case atStart => exact ⟨0, Nat.zero_le _, rfl, rfl⟩
  case round =>
    obtain ⟨k, hk, rfl, rfl⟩ := hrel
    by_cases hlt : k < n
    · obtain ⟨b, off, rfl, hb, hc⟩ := HH.out.2.2.2 (by rw [mkq_len]; omega)
      have hcc := hc k _ (mkq_get n 1 k hlt)
      obtain ⟨hc0, hc1⟩ := hcc
      clear hc
      go_wp2
      go_round
      case rel => exact ⟨k + 1, by omega, by go_num, vint (by omega)⟩
      case measure => simp [intOf]; omega
    · go_wp2
      go_ret
      exact ⟨ret_int (by omega), rfl⟩

/-- whatever slice is owned: its mark -/
theorem c_markPlaceS_any (ps : List Pr) (B cap : Nat) (A : Option Addr) (w : World) (h : w.ownsRow B 58 2 (.slice A ps.length cap) ps.length (prs ps)) (hn : ps.length ≤ 1048576) : Calls Tryd.prog 24 #[.slice A ps.length cap, .int .i64 1] w fun e w' => e = .returned (.int .i64 (1 + 2 * ps.length)) ∧ w'.ownsRow B 58 2 (.slice A ps.length cap) ps.length (prs (mkq ps.length 1)) ∧ w.grownBy w' (Value.slice A ps.length cap).ownBlock := by
  obtain ⟨A', cap', e1, _, _, hA⟩ := own_ps h
  obtain ⟨rfl, -, rfl⟩ : A = A' ∧ True ∧ cap = cap' := by simpa using e1
  rcases hA with rfl | ⟨g, rfl, _, _⟩
  · rcases h.2 with ⟨e2, h0⟩ | ⟨g, c, cur, e2, _⟩
    · have h00 : ps = [] := List.length_eq_zero_iff.1 h0
      subst h00
      obtain rfl : cap = 0 := by simpa using e2
      refine (c_markPlaceS_nil _).mono ?_
      rintro e w' ⟨rfl, rfl⟩
      exact ⟨ret_int (by simp), own_ps_nil _ _ _, grown_refl _ _⟩
    · simp at e2
  · exact c_markPlaceS B g cap ps w h hn

theorem pls_len (cs : List Bl) : (pls cs).length = cs.length := by simp [pls]
theorem pls_take_succ (l : List Bl) (k : Nat) (h : k < l.length) : pls (l.take (k + 1)) = pls (l.take k) ++ [(((txt (l.take k)).length : Int), (zs (l.take k) : Int))] := by
  rw [List.take_succ_eq_append_getElem h, pls_snoc]
theorem txt_take_succ (l : List Bl) (k : Nat) (h : k < l.length) : (txt (l.take (k + 1))).length = (txt (l.take k)).length + (10 + l[k].body.size) := by
  rw [List.take_succ_eq_append_getElem h, txt_snoc, List.length_append, Bl.text_len]
theorem Rdg.okAll {L : List UInt8} {bs : List Bl} (h : Rdg L bs) : ∀ b ∈ bs, b.ok := fun b hb => by
  obtain ⟨i, hi, rfl⟩ := List.getElem_of_mem hb
  exact (h.1 i bs[i] (List.getElem?_eq_getElem hi)).1
theorem own_pl0 (W : World) (B : Nat) (hB : B ≤ W.heap.size) : (W.alloc (.cells #[] 58)).ownsRow B 58 2 (.slice (some ⟨W.heap.size, 0, none⟩) 0 0) 0 (prs []) := World.ownsRow_made (e := 58) (size := 2) (base := B) W #[] 0 hB (by simp) (by simp [maxLen])

theorem c_l5Places (A : Option Addr) (cap : Nat) (l : List Bl) (L : Nat) (w : World) (h : BlsAt w L A cap l) (hL : L ≤ w.heap.size) (hn : l.length ≤ 40) (hok : ∀ b ∈ l, b.ok) : Calls Tryd.prog 52 #[.slice A l.length cap] w fun e w' => ∃ v, e = .returned v ∧ w'.ownsRow w.heap.size 58 2 v l.length (prs (pls l)) ∧ Below w.heap.size w w' := by
  obtain ⟨N, hN⟩ : ∃ N, N = l.length := ⟨_, rfl⟩
  have HN := hid hN
  rw [← hN] at hn ⊢
  have HH := hid h
  have HE := hid (own_pl0 w w.heap.size (Nat.le_refl _))
  clear hN h
  go_enter Tryd.func52, Tryd.ntmps52
  go_wp2_with fail
  go_loopw [3, 4, 5, 6] (fun v x y i wr => ∃ (k s t : Nat), k ≤ N ∧ i = .int .i64 k ∧ x = .int .i64 (s : Int) ∧ y = .int .i64 (t : Int) ∧ Hid (s = (txt (l.take k)).length) ∧ s ≤ 74 * k ∧ Hid (t = zs (l.take k)) ∧ t ≤ 64 * k ∧ wr.ownsRow w.heap.size 58 2 v k (prs (pls (l.take k))) ∧ Below w.heap.size w wr) (fun _ _ _ i _ => N - (intOf i).toNat)
  case atStart => exact ⟨0, 0, 0, Nat.zero_le _, rfl, rfl, rfl, hid rfl, by omega, hid rfl, by omega, HE.out, by (repeat (first | with_reducible (first | assumption | exact Below.refl _ _ | refine bel_alloc ?_ _ | refine bel_drew ?_ | refine bel_drewN ?_ _ | refine bel_set ?_ (by first | omega | (simp; done) | (simp; omega)) _ | refine bel_trans ?_ (by assumption)) | assumption | refine bel_trans ?_ (by assumption)))⟩
  case round =>
    obtain ⟨k, s, t, hk, rfl, rfl, rfl, HS, hs, HT, ht, hown, hbl⟩ := hrel
    by_cases hlt : k < N
    · have hlt2 : k < l.length := by have := HN.out; omega
      rename_i wr _
      have ho := hok _ (List.getElem_mem hlt2)
      have hz1 := ho.2.1
      have hz2 := Bl.len _ ho
      clear ho
      have HP := hid (show pls (l.take (k + 1)) = pls (l.take k) ++ [((s : Int), (t : Int))] by rw [pls_take_succ l k hlt2, ← HS.out, ← HT.out])
      obtain ⟨z, hzz⟩ : ∃ z, z = l[k].z := ⟨_, rfl⟩
      obtain ⟨d, hd⟩ : ∃ d, d = l[k].body := ⟨_, rfl⟩
      rw [← hzz] at hz1
      rw [← hd] at hz2
      obtain ⟨m, rfl⟩ := Int.eq_ofNat_of_zero_le (show 0 ≤ z by omega)
      have HS2 := hid (show s + (10 + d.size) = (txt (l.take (k + 1))).length by rw [txt_take_succ l k hlt2, ← HS.out, ← hd])
      have HT2 := hid (show t + m = zs (l.take (k + 1)) by rw [zs_take_succ l k hlt2, ← HT.out, ← hzz]; rfl)
      have HB := hid (HH.out.below hbl hL)
      have HO := hid hown
      have hszr := hbl.size
      clear hown
      obtain ⟨b, off, rfl, hb, -, -, hc2, hc3⟩ := bl_at HB.out k hlt2
      rw [← hzz] at hc2
      rw [← hd] at hc3
      have HZZ := hid hzz
      have HDD := hid hd
      clear hzz hd hc2 hc3
      go_wp2_with (at_builtin; refine app_pair rfl _ _ 32 rfl w.heap.size 58 Tryd.underlying32 Tryd.info_placeD _ k (pls (l.take k)) rfl HO.out ((s : Int), (t : Int)) _ _ rfl rfl 1 rfl (by omega) hszr ?_; intro v4 w4 hown4 hb4 hg4; have hbl4 := hbl.trans hb4; obtain ⟨b5, off5, e5, hb5, -, -, hc2, hc3⟩ := bl_at (HH.out.below hbl4 hL) k hlt2; rw [← HZZ.out] at hc2; rw [← HDD.out] at hc3; obtain ⟨rfl, rfl⟩ : b = b5 ∧ off = off5 := by simpa using e5)
      rw [← HP.out] at hown4
      go_roundw
      case rel => exact ⟨k + 1, s + (10 + d.size), t + m, by omega, by go_num, by go_num, by go_num, HS2, by omega, HT2, by omega, hown4, hbl4⟩
      case measure => simp [intOf]; omega
    · have HE2 := hid (show pls (l.take k) = pls l by rw [List.take_of_length_le (by have := HN.out; omega)])
      have hkN : k = N := by omega
      subst hkN
      rw [HE2.out] at hown
      go_wp2_with fail
      go_ret
      exact ⟨_, rfl, hown, hbl⟩
end Go.Proofs.YtkglpbaapekgnaaDoor
