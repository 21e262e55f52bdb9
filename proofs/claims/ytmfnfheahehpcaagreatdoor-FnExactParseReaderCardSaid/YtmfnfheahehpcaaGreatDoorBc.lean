/- Contracts of the laws' own helpers on what is known: copy, compare, mark. No condition but that the pairs are not too many. Contracts of Start in both programs; the laws' marks on what is known; the walk of FnExactStart. No condition. Contracts of KnownValid in the program, and of what it calls. No condition but that the numbers are int's. -/
import Derived.Test.YtmfnfheahehpcaaGreatDoorChecked
import Derived.Test.YtmfnfheahehpcaaGreatDoorBb
import Derived.Test.YtmfnfheahehpcaaGreatDoorBa
import Derived.Deep.SlicePairs
import Derived.Deep.RegionHeld3
namespace Go.Proofs.YtmfnfheahehpcaaGreatDoor
section
open Go.ChangeShapes Go.WideShapes Go.ChangeAt Go.RowKit Go.Joins
set_option linter.unusedVariables false

theorem Tryz.info_pair : (Tryz.prog.info? 53).map (fun i => (i.zero, i.size, i.bytes)) = some (some (.agg #[.int .i64 0, .int .i64 0]), 2, 16) := by kernel_rfl

theorem pair_at {w : World} {L cap : Nat} {A : Option Addr} {ps : List Pr} (h : PsAt w L A cap ps) (i : Nat) (hi : i < ps.length) : ∃ b off, A = some ⟨b, off, none⟩ ∧ b < L ∧ w.cell? ⟨b, off + i * 2, none⟩ = some (.int .i64 ps[i].1) ∧ w.cell? ⟨b, off + i * 2 + 1, none⟩ = some (.int .i64 ps[i].2) := by
  obtain ⟨b, off, e, hb, hc⟩ := h.2.2.2 (by omega)
  have := hc i ps[i] (List.getElem?_eq_getElem hi)
  exact ⟨b, off, e, hb, this.1, this.2⟩
theorem own_pair {w : World} {B : Nat} {e : TypeId} {G n cap : Nat} {l : List Pr} (h : w.ownsRow B e 2 (.slice (some ⟨G, 0, none⟩) n cap) n (prs l)) (k : Nat) (p : Pr) (hk : l[k]? = some p) : w.cell? ⟨G, k * 2, none⟩ = some (.int .i64 p.1) ∧ w.cell? ⟨G, k * 2 + 1, none⟩ = some (.int .i64 p.2) := by
  have hl := h.1
  rw [prs_len] at hl
  have hk2 := get_lt hk
  have := prs_get l k p hk
  exact ⟨(h.cellAt _ (by omega)).trans this.1, (h.cellAt _ (by omega)).trans this.2⟩

theorem c_eqSetting (o l m : Int) (w : World) : Calls Tryz.prog 47 #[.agg #[.int .i64 o, .int .i64 l, .int .i64 m], .agg #[.int .i64 o, .int .i64 l, .int .i64 m]] w fun e w' => e = .returned (.bool true) ∧ Below w.heap.size w w' := by
  go_enter Tryz.func47, Tryz.ntmps47
  go_wp2
  go_ret
  exact ⟨rfl, by exact obB⟩

theorem c_eqPair (a b : Int) (w : World) : Calls Tryz.prog 84 #[.agg #[.int .i64 a, .int .i64 b], .agg #[.int .i64 a, .int .i64 b]] w fun e w' => e = .returned (.bool true) ∧ Below w.heap.size w w' := by
  go_enter Tryz.func84, Tryz.ntmps84
  go_wp2
  go_ret
  exact ⟨rfl, by exact obB⟩

theorem c_eqPairS (A A2 : Option Addr) (cap cap2 : Nat) (ps : List Pr) (L L2 : Nat) (w : World) (h : PsAt w L A cap ps) (h2 : PsAt w L2 A2 cap2 ps) (hL : L ≤ w.heap.size) (hL2 : L2 ≤ w.heap.size) (hn : ps.length ≤ 1048576) : Calls Tryz.prog 48 #[.slice A ps.length cap, .slice A2 ps.length cap2] w fun e w' => e = .returned (.bool true) ∧ Below w.heap.size w w' := by
  go_enter Tryz.func48, Tryz.ntmps48
  go_wp2_with fail
  go_loopw [5] (fun i wr => ∃ k : Nat, k ≤ ps.length ∧ i = .int .i64 k ∧ Below w.heap.size w wr) (fun i _ => ps.length - (intOf i).toNat)
  case atStart => exact ⟨0, Nat.zero_le _, rfl, by exact obB⟩
  case round =>
    obtain ⟨k, hk, rfl, hbl⟩ := hrel
    by_cases hlt : k < ps.length
    · obtain ⟨b, off, rfl, hb, hc0, hc1⟩ := pair_at (h.below hbl hL) k hlt
      obtain ⟨d, off2, rfl, hd, hd0, hd1⟩ := pair_at (h2.below hbl hL2) k hlt
      obtain ⟨p, hp⟩ : ∃ p, p = ps[k] := ⟨_, rfl⟩
      rw [← hp] at hc0 hc1 hd0 hd1
      clear hp
      go_wp2_with fail
      go_region_with (go_at_call 84; refine (c_eqPair _ _ _).mono ?_; rintro e w2 ⟨rfl, hb2⟩; have hc2 := bcell hb2)
      all_goals
        go_wp2
        go_roundw
        case rel => exact ⟨k + 1, by omega, by go_num, by exact obB⟩
        case measure => simp [intOf]; omega
    · go_wp2
      go_ret
      exact ⟨rfl, by exact obB⟩

theorem c_eqKnown (k : Kn) (A A2 : Option Addr) (cap cap2 L L2 : Nat) (w : World) (h : PsAt w L A cap k.ps) (h2 : PsAt w L2 A2 cap2 k.ps) (hL : L ≤ w.heap.size) (hL2 : L2 ≤ w.heap.size) (hn : k.ps.length ≤ 1048576) : Calls Tryz.prog 14 #[.agg #[.int .i64 k.o, .int .i64 k.l, .int .i64 k.m, .slice A k.ps.length cap, .int .i64 k.base, .int .i64 k.last], .agg #[.int .i64 k.o, .int .i64 k.l, .int .i64 k.m, .slice A2 k.ps.length cap2, .int .i64 k.base, .int .i64 k.last]] w fun e w' => e = .returned (.bool true) ∧ Below w.heap.size w w' := by
  have HH := hid h
  have HH2 := hid h2
  clear h h2
  have hs2 : ∀ (o1 o2 : Obj), ((w.alloc o1).alloc o2).heap.size = w.heap.size + 2 := fun o1 o2 => by simp
  go_enter Tryz.func14, Tryz.ntmps14
  go_wp2_with fail
  refine (c_eqSetting _ _ _ _).mono ?_
  rintro e w1 ⟨rfl, hb1⟩
  have kN := ((Blk.new w 27 #[.int .i64 k.o, .int .i64 k.l, .int .i64 k.m, .slice A k.ps.length cap, .int .i64 k.base, .int .i64 k.last]).alloc _).on hb1
  have kR := (Blk.top w _ _ _).on hb1
  have hz1 := hb1.size
  rw [hs2] at hz1
  have hB1 : Below w.heap.size w w1 := by exact obB
  clear hb1
  obtain ⟨p0, p1, p2, p3, p4, p5⟩ := kN.cells6
  obtain ⟨t0, t1, t2, t3, t4, t5⟩ := kR.cells6
  go_wp2_with fail
  clear p0 p1 p2 p3 p4 p5 t0 t1 t2 t3 t4 t5
  refine (c_eqPairS A A2 cap cap2 k.ps L L2 _ (HH.out.below hB1 hL) (HH2.out.below hB1 hL2) (by omega) (by omega) hn).mono ?_
  rintro e w2 ⟨rfl, hb2⟩
  obtain ⟨p0, p1, p2, p3, p4, p5⟩ := (kN.on hb2).cells6
  obtain ⟨t0, t1, t2, t3, t4, t5⟩ := (kR.on hb2).cells6
  have hB2 : Below w.heap.size w w2 := by exact obB
  clear hb2 hB1 kN kR
  go_wp2
  go_ret
  exact ⟨rfl, by exact obB⟩

/-- the pairs that hold the numbers from s on -/
def mk (n : Nat) (s : Int) : List Pr := (List.range n).map fun (i : Nat) => (s + 2 * (i : Int), s + 2 * (i : Int) + 1)
theorem mk_len (n : Nat) (s : Int) : (mk n s).length = n := by simp [mk]
theorem mk_get (n : Nat) (s : Int) (i : Nat) (h : i < n) : (mk n s)[i]? = some (s + 2 * i, s + 2 * i + 1) := by simp [mk, h]
theorem mk_succ (n : Nat) (s : Int) : mk (n + 1) s = mk n s ++ [(s + 2 * n, s + 2 * n + 1)] := by simp [mk, List.range_succ]

theorem c_markPairS (B G cap : Nat) (ps : List Pr) (w : World) (h : w.ownsRow B 53 2 (.slice (some ⟨G, 0, none⟩) ps.length cap) ps.length (prs ps)) (hn : ps.length ≤ 1048576) : Calls Tryz.prog 49 #[.slice (some ⟨G, 0, none⟩) ps.length cap, .int .i64 1] w fun e w' => e = .returned (.int .i64 (1 + 2 * ps.length)) ∧ w'.ownsRow B 53 2 (.slice (some ⟨G, 0, none⟩) ps.length cap) ps.length (prs (mk ps.length 1)) ∧ w.grownBy w' (some G) := by
  obtain ⟨N, hN⟩ : ∃ N, N = ps.length := ⟨_, rfl⟩
  have HN := hid hN
  rw [← hN] at hn h ⊢
  clear hN
  have HH := hid h
  clear h
  go_enter Tryz.func49, Tryz.ntmps49
  go_wp2_with fail
  go_loopw [1, 5] (fun m i wr => ∃ k : Nat, k ≤ N ∧ i = .int .i64 k ∧ m = .int .i64 (1 + 2 * k) ∧ wr.ownsRow B 53 2 (.slice (some ⟨G, 0, none⟩) N cap) N (prs (mk k 1 ++ ps.drop k)) ∧ w.grownBy wr (some G)) (fun _ i _ => N - (intOf i).toNat)
  case atStart => exact ⟨0, Nat.zero_le _, rfl, rfl, by simpa [mk] using HH.out, grown_refl _ _⟩
  case round =>
    obtain ⟨k, hk, rfl, rfl, hown, hgr⟩ := hrel
    by_cases hlt : k < N
    · have hlt2 : k < ps.length := by have := HN.out; omega
      obtain ⟨p, hp⟩ : ∃ p, p = ps[k] := ⟨_, rfl⟩
      have HE := hid (show (mk k 1 ++ ps.drop k)[k]? = some p by
        rw [List.getElem?_append_right (by rw [mk_len]; omega), mk_len, Nat.sub_self, List.getElem?_drop, Nat.add_zero, hp]; exact List.getElem?_eq_getElem hlt2)
      have HS := hid (show (mk k 1 ++ ps.drop k).set k ((1 : Int) + 2 * k, (1 : Int) + 2 * k + 1) = mk (k + 1) 1 ++ ps.drop (k + 1) by
        rw [List.set_append, if_neg (by rw [mk_len]; omega), mk_len, Nat.sub_self, List.drop_eq_getElem_cons hlt2, List.set_cons_zero, mk_succ]; simp)
      clear hp
      obtain ⟨q0, q1⟩ := own_pair hown k _ HE.out
      have f0 := hown.frozenAt (k * 2)
      have f1 := hown.frozenAt (k * 2 + 1)
      have hst := own_store_pair hown k ((1 : Int) + 2 * k, (1 : Int) + 2 * k + 1)
      rw [HS.out] at hst
      have hst2 := grown_set (grown_set hgr (k * 2) (.int .i64 ((1 : Int) + 2 * k))) (k * 2 + 1) (.int .i64 ((1 : Int) + 2 * k + 1))
      have HT := hid (And.intro hst hst2)
      clear hst hst2 hown hgr
      go_wp2
      go_roundw
      case rel => exact ⟨k + 1, by omega, by go_num, vint (by omega), HT.out.1, HT.out.2⟩
      case measure => simp [intOf]; omega
    · have HD := hid (show mk k 1 ++ ps.drop k = mk N 1 by rw [show k = N from by omega, List.drop_of_length_le (by have := HN.out; omega)]; simp)
      rw [HD.out] at hown
      go_wp2
      go_ret
      exact ⟨ret_int (by omega), hown, hgr⟩

theorem c_markPairS_nil (w : World) : Calls Tryz.prog 49 #[.slice none 0 0, .int .i64 1] w (Same (.int .i64 1) w) := by
  go_enter Tryz.func49, Tryz.ntmps49
  go_wp2_with fail
  go_loop [1, 5] (fun m i => m = .int .i64 1 ∧ i = .int .i64 0) (fun _ i => 0)
  case atStart => exact ⟨rfl, rfl⟩
  case round =>
    obtain ⟨rfl, rfl⟩ := hrel
    go_wp2
    go_ret
    exact ⟨rfl, rfl⟩

theorem c_heldPairS (L : Nat) (A : Option Addr) (cap n : Nat) (w : World) (h : PsAt w L A cap (mk n 1)) (hn : n ≤ 1048576) : Calls Tryz.prog 50 #[.slice A n cap, .int .i64 1] w (Same (.int .i64 (1 + 2 * n)) w) := by
  have HH := hid h
  clear h
  go_enter Tryz.func50, Tryz.ntmps50
  go_wp2_with fail
  go_loop [1, 5] (fun m i => ∃ k : Nat, k ≤ n ∧ i = .int .i64 k ∧ m = .int .i64 (1 + 2 * k)) (fun _ i => n - (intOf i).toNat)
  case atStart => exact ⟨0, Nat.zero_le _, rfl, rfl⟩
  case round =>
    obtain ⟨k, hk, rfl, rfl⟩ := hrel
    by_cases hlt : k < n
    · obtain ⟨b, off, rfl, hb, hc⟩ := HH.out.2.2.2 (by rw [mk_len]; omega)
      have hcc := hc k _ (mk_get n 1 k hlt)
      obtain ⟨hc0, hc1⟩ := hcc
      clear hc
      go_wp2
      go_round
      case rel => exact ⟨k + 1, by omega, by go_num, vint (by omega)⟩
      case measure => simp [intOf]; omega
    · go_wp2
      go_ret
      exact ⟨ret_int (by omega), rfl⟩
end

section
open Go.ChangeShapes Go.WideShapes Go.ChangeAt Go.RowKit Go.Joins
set_option linter.unusedVariables false

theorem c_sStart_yes (o l m : Int) (w : World) (h : setOk o l m = true) : Calls Tryz.prog 78 #[.agg #[.int .i64 o, .int .i64 l, .int .i64 m]] w fun e w' => e = .returned (.tuple #[.agg #[.int .i64 o, .int .i64 l, .int .i64 m, .slice none 0 0, .int .i64 0, .int .i64 (-1)], .bool true]) ∧ Below w.heap.size w w' := by
  have hs2 : ∀ (o1 o2 : Obj), ((w.alloc o1).alloc o2).heap.size = w.heap.size + 2 := fun o1 o2 => by simp
  go_enter Tryz.func78, Tryz.ntmps78
  go_wp2_with fail
  refine (c_sSettingValid _ _ _ _).mono ?_
  rintro e w1 ⟨rfl, hb1⟩
  have kN := ((Blk.new w 24 #[.int .i64 o, .int .i64 l, .int .i64 m]).alloc _).on hb1
  have kR := (Blk.top w _ _ _).on hb1
  have hz1 := hb1.size
  rw [hs2] at hz1
  have hB1 : Below w.heap.size w w1 := by exact obB
  clear hb1
  obtain ⟨p0, p1, p2⟩ := kN.cells3
  obtain ⟨t0, t1, t2, t3, t4, t5⟩ := kR.cells6
  obtain ⟨u0, u1, u2, u3, u4, u5⟩ := kR.free6
  obtain ⟨j0, j1, j2, j3, j4, j5⟩ := (kR.put6 (.int .i64 o) (.int .i64 l) (.int .i64 m) (.slice none 0 0) (.int .i64 0) (.int .i64 (-1))).cells6
  clear kN kR
  go_wp2
  exact bodyPost_ret (v := .tuple #[.agg #[.int .i64 o, .int .i64 l, .int .i64 m, .slice none 0 0, .int .i64 0, .int .i64 (-1)], .bool true]) (by simp [results, Tryz.results78, go_sem, j0, j1, j2, j3, j4, j5]) rfl ⟨rfl, by exact obB⟩

theorem c_sStart_no (o l m : Int) (w : World) (h : setOk o l m = false) : Calls Tryz.prog 78 #[.agg #[.int .i64 o, .int .i64 l, .int .i64 m]] w fun e w' => e = .returned (.tuple #[.agg #[.int .i64 0, .int .i64 0, .int .i64 0, .slice none 0 0, .int .i64 0, .int .i64 0], .bool false]) ∧ Below w.heap.size w w' := by
  have hs2 : ∀ (o1 o2 : Obj), ((w.alloc o1).alloc o2).heap.size = w.heap.size + 2 := fun o1 o2 => by simp
  go_enter Tryz.func78, Tryz.ntmps78
  go_wp2_with fail
  refine (c_sSettingValid _ _ _ _).mono ?_
  rintro e w1 ⟨rfl, hb1⟩
  have kR := (Blk.top w _ _ _).on hb1
  have hz1 := hb1.size
  rw [hs2] at hz1
  have hB1 : Below w.heap.size w w1 := by exact obB
  clear hb1
  obtain ⟨t0, t1, t2, t3, t4, t5⟩ := kR.cells6
  obtain ⟨u0, u1, u2, u3, u4, u5⟩ := kR.free6
  obtain ⟨j0, j1, j2, j3, j4, j5⟩ := (kR.put6 (.int .i64 0) (.int .i64 0) (.int .i64 0) (.slice none 0 0) (.int .i64 0) (.int .i64 0)).cells6
  clear kR
  go_wp2
  exact bodyPost_ret (v := .tuple #[.agg #[.int .i64 0, .int .i64 0, .int .i64 0, .slice none 0 0, .int .i64 0, .int .i64 0], .bool false]) (by simp [results, Tryz.results78, go_sem, j0, j1, j2, j3, j4, j5]) rfl ⟨rfl, by exact obB⟩

/-- a mark on nothing -/
theorem c_markKnown_nil (o l m b t : Int) (w : World) : Calls Tryz.prog 15 #[.agg #[.int .i64 o, .int .i64 l, .int .i64 m, .slice none 0 0, .int .i64 b, .int .i64 t], .int .i64 1] w fun e w' => e = .returned (.int .i64 1) ∧ Below w.heap.size w w' := by
  go_enter Tryz.func15, Tryz.ntmps15
  go_wp2_with (go_at_call 49; refine (c_markPairS_nil _).mono ?_; rintro e w' ⟨rfl, rfl⟩)
  go_ret
  exact ⟨rfl, by exact obB⟩
theorem c_markKnown (k : Kn) (B G cap : Nat) (w : World) (h : w.ownsRow B 53 2 (.slice (some ⟨G, 0, none⟩) k.ps.length cap) k.ps.length (prs k.ps)) (hB : B ≤ w.heap.size) (hn : k.ps.length ≤ 1048576) : Calls Tryz.prog 15 #[.agg #[.int .i64 k.o, .int .i64 k.l, .int .i64 k.m, .slice (some ⟨G, 0, none⟩) k.ps.length cap, .int .i64 k.base, .int .i64 k.last], .int .i64 1] w fun e w' => e = .returned (.int .i64 (1 + 2 * k.ps.length)) ∧ w'.ownsRow B 53 2 (.slice (some ⟨G, 0, none⟩) k.ps.length cap) k.ps.length (prs (mk k.ps.length 1)) ∧ w.grownBy w' (some G) := by
  have HH := hid h
  clear h
  go_enter Tryz.func15, Tryz.ntmps15
  go_wp2_with fail
  refine (c_markPairS B G cap k.ps _ (HH.out.alloc _) hn).mono ?_
  rintro e w1 ⟨rfl, hown, hg⟩
  have hg2 := grown_trans (World.grownBy_alloc w (.cells #[.int .i64 k.o, .int .i64 k.l, .int .i64 k.m, .slice (some ⟨G, 0, none⟩) k.ps.length cap, .int .i64 k.base, .int .i64 k.last] 27) (some G)) hg
  clear hg
  go_wp2
  go_ret
  exact ⟨rfl, hown, hg2⟩
theorem c_heldKnown (o l m b t : Int) (A : Option Addr) (cap n L : Nat) (w : World) (h : PsAt w L A cap (mk n 1)) (hL : L ≤ w.heap.size) (hn : n ≤ 1048576) : Calls Tryz.prog 16 #[.agg #[.int .i64 o, .int .i64 l, .int .i64 m, .slice A n cap, .int .i64 b, .int .i64 t], .int .i64 1] w fun e w' => e = .returned (.int .i64 (1 + 2 * n)) ∧ Below w.heap.size w w' := by
  have HH := hid h
  clear h
  go_enter Tryz.func16, Tryz.ntmps16
  go_wp2_with (go_at_call 50; refine (c_heldPairS L A cap n _ (HH.out.alloc hL _) hn).mono ?_; rintro e w' ⟨rfl, rfl⟩)
  go_ret
  exact ⟨rfl, by exact obB⟩
end

section
open Go.ChangeShapes Go.WideShapes Go.ChangeAt Go.RowKit Go.Joins
set_option linter.unusedVariables false

theorem c_EndCode_yes (o l m : Int) (w : World) (h : setOk o l m = true) : Calls Tryz.prog 34 #[.agg #[.int .i64 o, .int .i64 l, .int .i64 m]] w fun e w' => e = .returned (.int .i64 (pow2 l + 1)) ∧ Below w.heap.size w w' := by
  have e : endCode o l m = pow2 l + 1 := by simp [endCode, h]
  rw [← e]; exact c_EndCode o l m w
theorem c_LastCode_yes (o l m : Int) (w : World) (h : setOk o l m = true) : Calls Tryz.prog 33 #[.agg #[.int .i64 o, .int .i64 l, .int .i64 m]] w fun e w' => e = .returned (.int .i64 (pow2 m - 1)) ∧ Below w.heap.size w w' := by
  have e : lastCode o l m = pow2 m - 1 := by simp [lastCode, h]
  rw [← e]; exact c_LastCode o l m w
/-- the clear code and the last one, of a valid setting -/
theorem set_bd {o l m : Int} (h : setOk o l m = true) : 2 ≤ pow2 l ∧ pow2 l ≤ 256 ∧ pow2 l + 3 ≤ pow2 m - 1 ∧ pow2 m - 1 ≤ 1023 := by
  have h2 : Kn.Ok ⟨o, l, m, [], 0, -1⟩ := by
    refine ⟨h, ?_, fun i p hp => by simp at hp, Int.le_refl _, by simp, Or.inr ⟨rfl, rfl⟩⟩
    obtain ⟨_, ⟨h1, h2⟩, h3, h4⟩ := setOk_iff.1 h
    have hm : (2 : Nat) ^ (l.toNat + 2) ≤ 2 ^ m.toNat := Nat.pow_le_pow_right (by omega) (by omega)
    have hl : (2 : Nat) ^ 1 ≤ 2 ^ l.toNat := Nat.pow_le_pow_right (by omega) (by omega)
    rw [Nat.pow_add] at hm
    show ((0 : Nat) : Int) ≤ (pow2 m - 1) - (pow2 l + 1)
    have e : ∀ a : Int, pow2 a = ((2 ^ a.toNat : Nat) : Int) := fun a => by simp [pow2]
    rw [e, e]; omega
  exact h2.cbd

theorem c_isLiteral (o l m n : Int) (w : World) (h : setOk o l m = true) : Calls Tryz.prog 70 #[.agg #[.int .i64 o, .int .i64 l, .int .i64 m], .int .i64 n] w fun e w' => e = .returned (.bool (decide (0 ≤ n ∧ n < pow2 l))) ∧ Below w.heap.size w w' := by
  by_cases h0 : 0 ≤ n
  · go_enter Tryz.func70, Tryz.ntmps70
    go_wp2_with (go_at_call 95; refine (c_ClearCode_yes _ _ _ _ h).mono ?_; rintro e w1 ⟨rfl, hb1⟩; have hc1 := bcell hb1; have hz1_0 : w.heap.size < w1.heap.size := (by have := hb1.size; first | omega | (simp at this; omega)))
    go_ret
    exact ⟨ret_bool (by simp [h0]), by exact obB⟩
  · go_enter Tryz.func70, Tryz.ntmps70
    go_wp2_with fail
    go_ret
    exact ⟨ret_bool (by simp; omega), by exact obB⟩

theorem c_hasWord (b : Nat) (o l m code : Int) (n : Nat) (w : World) (h : setOk o l m = true) (hb : b < w.heap.size) (q0 : w.cell? ⟨b, 0, none⟩ = some (.int .i64 o)) (q1 : w.cell? ⟨b, 1, none⟩ = some (.int .i64 l)) (q2 : w.cell? ⟨b, 2, none⟩ = some (.int .i64 m)) (hc : -9223372036854775808 ≤ code ∧ code ≤ 9223372036854775807) (hn : n ≤ 2000000) :
    Calls Tryz.prog 69 #[.pointer (some ⟨b, 0, none⟩), .int .i64 code, .int .i64 n] w fun e w' => e = .returned (.bool (decide (HasW (pow2 l) code n))) ∧ Below w.heap.size w w' := by
  have hp := set_bd h
  by_cases h1 : 0 ≤ code ∧ code < pow2 l
  · have HL := hid (fun w => c_isLiteral o l m code w h)
    rw [decide_eq_true h1] at HL
    have HR := hid (show HasW (pow2 l) code n from Or.inl h1)
    clear h1
    go_enter Tryz.func69, Tryz.ntmps69
    go_wp2_with (go_at_call 70; refine (HL.out _).mono ?_; rintro e w1 ⟨rfl, hb1⟩; have hc1 := bcell hb1; have hz1_0 : b < w1.heap.size := (by have := hb1.size; first | omega | (simp at this; omega)))
    go_ret
    exact ⟨ret_bool (by simp [HR.out]), by exact obB⟩
  · have HL := hid (fun w => c_isLiteral o l m code w h)
    rw [decide_eq_false h1] at HL
    by_cases h2 : pow2 l + 1 < code
    · go_enter Tryz.func69, Tryz.ntmps69
      go_wp2_with (first | (go_at_call 70; refine (HL.out _).mono ?_; rintro e w1 ⟨rfl, hb1⟩; have hc1 := bcell hb1; have hz1_0 : b < w1.heap.size := (by have := hb1.size; first | omega | (simp at this; omega))) | (go_at_call 34; refine (c_EndCode_yes _ _ _ _ h).mono ?_; rintro e w2 ⟨rfl, hb2⟩; have hc2 := bcell hb2; have hz2_0 : b < w2.heap.size := (by have := hb2.size; first | omega | (simp at this; omega))))
      go_ret
      have HI : HasW (pow2 l) code n ↔ code - (pow2 l + 1) ≤ n := by unfold HasW; omega
      exact ⟨ret_bool (by rw [decide_eq_decide]; exact HI.symm), by exact obB⟩
    · go_enter Tryz.func69, Tryz.ntmps69
      go_wp2_with (first | (go_at_call 70; refine (HL.out _).mono ?_; rintro e w1 ⟨rfl, hb1⟩; have hc1 := bcell hb1; have hz1_0 : b < w1.heap.size := (by have := hb1.size; first | omega | (simp at this; omega))) | (go_at_call 34; refine (c_EndCode_yes _ _ _ _ h).mono ?_; rintro e w2 ⟨rfl, hb2⟩; have hc2 := bcell hb2; have hz2_0 : b < w2.heap.size := (by have := hb2.size; first | omega | (simp at this; omega))))
      go_ret
      have HI : ¬ HasW (pow2 l) code n := by unfold HasW; omega
      exact ⟨ret_bool (decide_eq_false HI).symm, by exact obB⟩

/-- the cells of what is known, behind a pointer -/
def KAt (w : World) (b : Nat) (k : Kn) (sl : Value) : Prop := b < w.heap.size ∧ w.cell? ⟨b, 0, none⟩ = some (.int .i64 k.o) ∧ w.cell? ⟨b, 1, none⟩ = some (.int .i64 k.l) ∧ w.cell? ⟨b, 2, none⟩ = some (.int .i64 k.m) ∧ w.cell? ⟨b, 3, none⟩ = some sl ∧ w.cell? ⟨b, 4, none⟩ = some (.int .i64 k.base) ∧ w.cell? ⟨b, 5, none⟩ = some (.int .i64 k.last)
theorem KAt.on {w w' : World} {b B : Nat} {k : Kn} {sl : Value} (h : KAt w b k sl) (hb : Below B w w') (hB : b < B) : KAt w' b k sl := by
  obtain ⟨h0, h1, h2, h3, h4, h5, h6⟩ := h
  have := hb.size
  exact ⟨by omega, cell_on h1 hb hB, cell_on h2 hb hB, cell_on h3 hb hB, cell_on h4 hb hB, cell_on h5 hb hB, cell_on h6 hb hB⟩
theorem Blk.kat {w : World} {b : Nat} {t : TypeId} {k : Kn} {sl : Value} (h : Blk w b t #[.int .i64 k.o, .int .i64 k.l, .int .i64 k.m, sl, .int .i64 k.base, .int .i64 k.last]) : KAt w b k sl := ⟨h.lt, h.cells6⟩
/-- the numbers of pairs are int's -/
def PsB (ps : List Pr) : Prop := ∀ (i : Nat) (p : Pr), ps[i]? = some p → (-9223372036854775808 ≤ p.1 ∧ p.1 ≤ 9223372036854775807) ∧ (-9223372036854775808 ≤ p.2 ∧ p.2 ≤ 9223372036854775807)

/-- the first i0 pairs are good, and the next one, if there is one, is not -/
def FirstBad (c : Int) (ps : List Pr) (i0 : Nat) : Prop := i0 ≤ ps.length ∧ (∀ i p, i < i0 → ps[i]? = some p → PairOk c i p) ∧ (∀ p, ps[i0]? = some p → ¬ PairOk c i0 p)
theorem firstBad_ex (c : Int) (ps : List Pr) : ∃ i0, FirstBad c ps i0 := by
  induction ps using snoc_ind with
  | h0 => exact ⟨0, Nat.le_refl _, fun i p hi => by omega, fun p hp => by simp at hp⟩
  | h1 l a ih =>
    obtain ⟨i0, h1, h2, h3⟩ := ih
    by_cases hl : i0 < l.length
    · refine ⟨i0, by simp; omega, fun i p hi hp => h2 i p hi ?_, fun p hp => h3 p ?_⟩
      · rw [List.getElem?_append_left (by omega)] at hp; exact hp
      · rw [List.getElem?_append_left hl] at hp; exact hp
    · have e : i0 = l.length := by omega
      subst e
      by_cases ha : PairOk c l.length a
      · refine ⟨l.length + 1, by simp, fun i p hi hp => ?_, fun p hp => by rw [List.getElem?_eq_none (by simp)] at hp; cases hp⟩
        by_cases hi2 : i < l.length
        · rw [List.getElem?_append_left hi2] at hp; exact h2 i p hi2 hp
        · have : i = l.length := by omega
          subst this
          simp at hp; subst hp; exact ha
      · refine ⟨l.length, by simp, fun i p hi hp => h2 i p hi ?_, fun p hp => ?_⟩
        · rw [List.getElem?_append_left hi] at hp; exact hp
        · simp at hp; subst hp; exact ha
theorem firstBad_all {c : Int} {ps : List Pr} {i0 : Nat} (h : FirstBad c ps i0) : PairsOk c ps ↔ i0 = ps.length := by
  constructor
  · intro hp
    have h1 := h.1
    by_cases hl : i0 < ps.length
    · exact absurd (hp i0 _ (List.getElem?_eq_getElem hl)) (h.2.2 _ (List.getElem?_eq_getElem hl))
    · omega
  · intro e i p hp
    exact h.2.1 i p (by have := get_lt hp; omega) hp

theorem c_pairsValid (b : Nat) (k : Kn) (A : Option Addr) (cap L i0 : Nat) (w : World) (hs : setOk k.o k.l k.m = true) (hk : KAt w b k (.slice A k.ps.length cap)) (h : PsAt w L A cap k.ps) (hL : L ≤ w.heap.size) (hB : PsB k.ps) (hn : k.ps.length ≤ 1048576) (hi : FirstBad k.c k.ps i0) :
    Calls Tryz.prog 35 #[.pointer (some ⟨b, 0, none⟩)] w fun e w' => e = .returned (.bool (decide (i0 = k.ps.length))) ∧ Below w.heap.size w w' := by
  have hi0 := hi.1
  have HI := hid hi.2
  have HK := hid hk
  have HH := hid h
  have HB := hid hB
  clear hi h hB
  obtain ⟨hb, q0, q1, q2, q3, q4, q5⟩ := hk
  go_enter Tryz.func35, Tryz.ntmps35
  go_wp2_with fail
  clear q0 q1 q2 q3 q4 q5
  go_loopw [10] (fun i wr => ∃ n : Nat, n ≤ i0 ∧ i = .int .i64 n ∧ Below w.heap.size w wr) (fun i _ => k.ps.length - (intOf i).toNat)
  case atStart => exact ⟨0, Nat.zero_le _, rfl, by exact obB⟩
  case round =>
    obtain ⟨n, hn0, rfl, hbl⟩ := hrel
    obtain ⟨hb2, q0, q1, q2, q3, q4, q5⟩ := HK.out.on hbl hb
    by_cases hlt : n < k.ps.length
    · obtain ⟨d, off, rfl, hd, hd0, hd1⟩ := pair_at (HH.out.below hbl hL) n hlt
      have hd2 : d < wr.heap.size := by have := hbl.size; omega
      have hbd := HB.out n _ (List.getElem?_eq_getElem hlt)
      have HP := hid (List.getElem?_eq_getElem hlt)
      obtain ⟨p, hp⟩ : ∃ p, p = k.ps[n] := ⟨_, rfl⟩
      rw [← hp] at hd0 hd1 hbd HP
      clear hp
      obtain ⟨x, y⟩ := p
      simp only at hd0 hd1 hbd
      obtain ⟨⟨hx0, hx1⟩, hy0, hy1⟩ := hbd
      have HW := hid (fun (v : World) (hv : KAt v b k (.slice (some ⟨d, off, none⟩) k.ps.length cap)) => c_hasWord b k.o k.l k.m x n v hs hv.1 hv.2.1 hv.2.2.1 hv.2.2.2.1 ⟨hx0, hx1⟩ (by omega))
      have HL := hid (fun (v : World) => c_isLiteral k.o k.l k.m y v hs)
      by_cases h1 : HasW (pow2 k.l) x n
      · rw [decide_eq_true h1] at HW
        by_cases h2 : 0 ≤ y ∧ y < pow2 k.l
        · rw [decide_eq_true h2] at HL
          have HN := hid (show n < i0 by
            rcases Nat.lt_or_ge n i0 with h3 | h3
            · exact h3
            · have : n = i0 := by omega
              subst this
              exact absurd ⟨h1, h2.1, h2.2⟩ (HI.out.2 _ HP.out))
          clear h1 h2
          go_wp2_with fail
          have bP := Blk.new wr 53 #[.int .i64 x, .int .i64 y]
          have hS := And.intro (cell_al q0 (.cells #[.int .i64 x, .int .i64 y] 53)) (And.intro (cell_al q1 (.cells #[.int .i64 x, .int .i64 y] 53)) (And.intro (cell_al q2 (.cells #[.int .i64 x, .int .i64 y] 53)) (And.intro bP.cells2.1 (And.intro bP.cells2.2 (bel_alloc hbl (.cells #[.int .i64 x, .int .i64 y] 53))))))
          clear q0 q1 q2 q3 q4 q5 bP hd0 hd1
          go_region_held3 (fun v => v.cell? ⟨b, 0, none⟩ = some (.int .i64 k.o) ∧ v.cell? ⟨b, 1, none⟩ = some (.int .i64 k.l) ∧ v.cell? ⟨b, 2, none⟩ = some (.int .i64 k.m) ∧ v.cell? ⟨wr.heap.size, 0, none⟩ = some (.int .i64 x) ∧ v.cell? ⟨wr.heap.size, 1, none⟩ = some (.int .i64 y) ∧ Below w.heap.size w v) (first | exact s5_drew hS | exact s5_bel (by assumption) (by assumption) | exact s5_alloc (by assumption) _ | exact s5_drew (s5_alloc hS _)) (first | (go_at_call 69; refine (HW.out _ (HK.out.on (B := w.heap.size) (by exact obB) hb)).mono ?_; rintro e w1 ⟨rfl, hb1⟩) | (go_at_call 70; refine (HL.out _).mono ?_; rintro e w2 ⟨rfl, hb2⟩))
          go_wp2
          go_roundw
          case rel => exact ⟨n + 1, by have := HN.out; omega, by go_num, by exact obB⟩
          case measure => simp [intOf]; omega
        · rw [decide_eq_false h2] at HL
          have HN := hid (show ¬ n = k.ps.length ∧ n = i0 by
            refine ⟨by omega, ?_⟩
            rcases Nat.lt_or_ge n i0 with h3 | h3
            · exact absurd (HI.out.1 n _ h3 HP.out).2 h2
            · omega)
          clear h1 h2
          go_wp2_with fail
          have bP := Blk.new wr 53 #[.int .i64 x, .int .i64 y]
          have hS := And.intro (cell_al q0 (.cells #[.int .i64 x, .int .i64 y] 53)) (And.intro (cell_al q1 (.cells #[.int .i64 x, .int .i64 y] 53)) (And.intro (cell_al q2 (.cells #[.int .i64 x, .int .i64 y] 53)) (And.intro bP.cells2.1 (And.intro bP.cells2.2 (bel_alloc hbl (.cells #[.int .i64 x, .int .i64 y] 53))))))
          clear q0 q1 q2 q3 q4 q5 bP hd0 hd1
          go_region_held3 (fun v => v.cell? ⟨b, 0, none⟩ = some (.int .i64 k.o) ∧ v.cell? ⟨b, 1, none⟩ = some (.int .i64 k.l) ∧ v.cell? ⟨b, 2, none⟩ = some (.int .i64 k.m) ∧ v.cell? ⟨wr.heap.size, 0, none⟩ = some (.int .i64 x) ∧ v.cell? ⟨wr.heap.size, 1, none⟩ = some (.int .i64 y) ∧ Below w.heap.size w v) (first | exact s5_drew hS | exact s5_bel (by assumption) (by assumption) | exact s5_alloc (by assumption) _ | exact s5_drew (s5_alloc hS _)) (first | (go_at_call 69; refine (HW.out _ (HK.out.on (B := w.heap.size) (by exact obB) hb)).mono ?_; rintro e w1 ⟨rfl, hb1⟩) | (go_at_call 70; refine (HL.out _).mono ?_; rintro e w2 ⟨rfl, hb2⟩))
          go_wp2
          go_ret
          exact ⟨ret_bool (by rw [← HN.out.2]; simp [HN.out.1]), by exact obB⟩
      · rw [decide_eq_false h1] at HW
        have HN := hid (show ¬ n = k.ps.length ∧ n = i0 by
          refine ⟨by omega, ?_⟩
          rcases Nat.lt_or_ge n i0 with h3 | h3
          · exact absurd (HI.out.1 n _ h3 HP.out).1 h1
          · omega)
        clear h1
        go_wp2_with fail
        have bP := Blk.new wr 53 #[.int .i64 x, .int .i64 y]
        have hS := And.intro bP.cells2.1 (And.intro bP.cells2.2 (bel_alloc hbl (.cells #[.int .i64 x, .int .i64 y] 53)))
        clear q0 q1 q2 q3 q4 q5 bP hd0 hd1
        refine wp_region_noPanic ?_
        refine wp_region_held_drew (S := (fun v => v.cell? ⟨wr.heap.size, 0, none⟩ = some (.int .i64 x) ∧ v.cell? ⟨wr.heap.size, 1, none⟩ = some (.int .i64 y) ∧ Below w.heap.size w v)) (by kernel_rfl) (s2_drew hS) (fun hHeld => ?_)
        refine tk 0 ?_
        refine tk 1 ?_
        refine tk 2 ?_
        refine tk 3 ?_
        refine wpAnyH_ready (rs := [4]) (by kernel_rfl) (by simp) ?_
        refine AllReadyH.cons (o := ?or1_4) ?ir1_4 (fun K hK => ?sr1_4) AllReadyH.nil
        case ir1_4 => (simp only [List.getElem?_toArray, List.getElem?_cons_succ, List.getElem?_cons_zero]; rfl)
        (first | (go_simp; (first | (go_at_call 69; refine (HW.out _ (HK.out.on (B := w.heap.size) (by exact obB) hb)).mono ?_; rintro e w1 ⟨rfl, hb1⟩) | skip)))
        refine hK.out _ _ ?kr1_4 (fun hHeld => ?_)
        case kr1_4 => (try dsimp only); (first | with_reducible assumption | exact s2_bel (by assumption) (by assumption) | assumption | exact s2_alloc (by assumption) _)
        clear hK K
        try simp only [Act.put, List.setIfInBounds_toArray, List.set_cons_zero, List.set_cons_succ]
        refine tk 5 ?_
        refine tk 6 ?_
        refine tu 7 ?_
        refine tu 8 ?_
        refine tu 9 ?_
        refine tu 10 ?_
        refine tu 11 ?_
        refine tu 12 ?_
        refine tu 13 ?_
        refine tu 14 ?_
        refine tk 15 ?_
        refine wpAnyH_done (by kernel_rfl) ?_ _
        refine NoPanic.normal ?_
        go_wp2
        go_ret
        exact ⟨ret_bool (by rw [← HN.out.2]; simp [HN.out.1]), by exact obB⟩
    · go_wp2
      go_ret
      exact ⟨ret_bool (by simp; omega), by exact obB⟩

theorem kat6 {w v : World} {b : Nat} {k : Kn} {sl : Value} (h : v.cell? ⟨b, 0, none⟩ = some (.int .i64 k.o) ∧ v.cell? ⟨b, 1, none⟩ = some (.int .i64 k.l) ∧ v.cell? ⟨b, 2, none⟩ = some (.int .i64 k.m) ∧ v.cell? ⟨b, 3, none⟩ = some sl ∧ v.cell? ⟨b, 4, none⟩ = some (.int .i64 k.base) ∧ v.cell? ⟨b, 5, none⟩ = some (.int .i64 k.last) ∧ Below w.heap.size w v) : KAt v b k sl ∧ Below w.heap.size w v :=
  ⟨⟨World.block_lt_of_cell? v _ h.1, h.1, h.2.1, h.2.2.1, h.2.2.2.1, h.2.2.2.2.1, h.2.2.2.2.2.1⟩, h.2.2.2.2.2.2⟩
theorem KAt.held {w v : World} {b : Nat} {k : Kn} {sl : Value} (h : KAt v b k sl) (hb : Below w.heap.size w v) : v.cell? ⟨b, 0, none⟩ = some (.int .i64 k.o) ∧ v.cell? ⟨b, 1, none⟩ = some (.int .i64 k.l) ∧ v.cell? ⟨b, 2, none⟩ = some (.int .i64 k.m) ∧ v.cell? ⟨b, 3, none⟩ = some sl ∧ v.cell? ⟨b, 4, none⟩ = some (.int .i64 k.base) ∧ v.cell? ⟨b, 5, none⟩ = some (.int .i64 k.last) ∧ Below w.heap.size w v := ⟨h.2.1, h.2.2.1, h.2.2.2.1, h.2.2.2.2.1, h.2.2.2.2.2.1, h.2.2.2.2.2.2, hb⟩
def LastOk (k : Kn) : Prop := HasW k.c k.last k.ps.length ∨ (k.last = -1 ∧ k.base = k.ps.length)
instance (k : Kn) : Decidable (LastOk k) := by unfold LastOk; infer_instance

theorem c_lastValid (b : Nat) (k : Kn) (A : Option Addr) (cap : Nat) (w : World) (hs : setOk k.o k.l k.m = true) (hk : KAt w b k (.slice A k.ps.length cap)) (hn : k.ps.length ≤ 1048576) (hl : -9223372036854775808 ≤ k.last ∧ k.last ≤ 9223372036854775807) :
    Calls Tryz.prog 36 #[.pointer (some ⟨b, 0, none⟩)] w fun e w' => e = .returned (.bool (decide (LastOk k))) ∧ Below w.heap.size w w' := by
  have hp := set_bd hs
  have hk2 := hk
  obtain ⟨hb, q0, q1, q2, q3, q4, q5⟩ := hk
  have hS := hk2.held (Below.refl _ w)
  by_cases h1 : k.last = -1
  · rw [h1] at q5
    have HN := hid (show decide (LastOk k) = decide (k.base = (k.ps.length : Int)) by
      rw [decide_eq_decide]; unfold LastOk HasW Kn.c; omega)
    have HS := hid hS
    clear hS hk2 hl h1
    go_enter Tryz.func36, Tryz.ntmps36
    go_wp2_with fail
    clear q0 q1 q2 q3 q4 q5
    have hS := HS.out
    refine wp_region_noPanic ?_
    refine wp_region_held_drew (S := (fun v => v.cell? ⟨b, 0, none⟩ = some (.int .i64 k.o) ∧ v.cell? ⟨b, 1, none⟩ = some (.int .i64 k.l) ∧ v.cell? ⟨b, 2, none⟩ = some (.int .i64 k.m) ∧ v.cell? ⟨b, 3, none⟩ = some (.slice A k.ps.length cap) ∧ v.cell? ⟨b, 4, none⟩ = some (.int .i64 k.base) ∧ v.cell? ⟨b, 5, none⟩ = some (.int .i64 k.last) ∧ Below w.heap.size w v)) (by kernel_rfl) (s6_drew hS) (fun hHeld => ?_)
    refine tk 0 ?_
    refine tk 1 ?_
    refine tk 2 ?_
    refine tk 3 ?_
    refine tk 4 ?_
    refine tk 5 ?_
    refine tk 6 ?_
    refine tk 7 ?_
    refine tk 8 ?_
    refine tk 9 ?_
    refine tk 10 ?_
    refine wpAnyH_done (by kernel_rfl) ?_ _
    refine NoPanic.normal ?_
    go_wp2
    go_ret
    exact ⟨ret_bool (by rw [HN.out]; first | rfl | (rw [Bool.eq_iff_iff]; simp)), by exact obB⟩
  · have HW := hid (fun (v : World) (hv : KAt v b k (.slice A k.ps.length cap)) => c_hasWord b k.o k.l k.m k.last k.ps.length v hs hv.1 hv.2.1 hv.2.2.1 hv.2.2.2.1 hl (by omega))
    have HN := hid (show decide (LastOk k) = decide (HasW (pow2 k.l) k.last k.ps.length) by
      rw [decide_eq_decide]; unfold LastOk Kn.c; simp [h1])
    have h2 : (k.last == -1) = false := by simpa using h1
    have HS := hid hS
    clear hS hk2 h1
    go_enter Tryz.func36, Tryz.ntmps36
    go_wp2_with fail
    clear q0 q1 q2 q3 q4 q5
    have hS := HS.out
    refine wp_region_noPanic ?_
    refine wp_region_held_drew (S := (fun v => v.cell? ⟨b, 0, none⟩ = some (.int .i64 k.o) ∧ v.cell? ⟨b, 1, none⟩ = some (.int .i64 k.l) ∧ v.cell? ⟨b, 2, none⟩ = some (.int .i64 k.m) ∧ v.cell? ⟨b, 3, none⟩ = some (.slice A k.ps.length cap) ∧ v.cell? ⟨b, 4, none⟩ = some (.int .i64 k.base) ∧ v.cell? ⟨b, 5, none⟩ = some (.int .i64 k.last) ∧ Below w.heap.size w v)) (by kernel_rfl) (s6_drew hS) (fun hHeld => ?_)
    refine tk 0 ?_
    refine tk 1 ?_
    refine tk 2 ?_
    refine tk 3 ?_
    refine tk 4 ?_
    refine tk 5 ?_
    refine tk 6 ?_
    refine tk 7 ?_
    refine tk 8 ?_
    refine tk 9 ?_
    refine wpAnyH_ready (rs := [10]) (by kernel_rfl) (by simp) ?_
    refine AllReadyH.cons (o := ?or3_10) ?ir3_10 (fun K hK => ?sr3_10) AllReadyH.nil
    case ir3_10 => (simp only [List.getElem?_toArray, List.getElem?_cons_succ, List.getElem?_cons_zero]; rfl)
    (first | (go_simp; (first | (go_at_call 69; refine (HW.out _ (kat6 hHeld).1).mono ?_; rintro e w1 ⟨rfl, hb1⟩) | skip)))
    refine hK.out _ _ ?kr3_10 (fun hHeld => ?_)
    case kr3_10 => (try dsimp only); (first | with_reducible assumption | exact s6_bel (by assumption) (by assumption) | assumption | exact s6_alloc (by assumption) _)
    clear hK K
    try simp only [Act.put, List.setIfInBounds_toArray, List.set_cons_zero, List.set_cons_succ]
    refine tk 11 ?_
    refine wpAnyH_done (by kernel_rfl) ?_ _
    refine NoPanic.normal ?_
    go_wp2
    go_ret
    exact ⟨ret_bool HN.out.symm, by exact obB⟩
end
end Go.Proofs.YtmfnfheahehpcaaGreatDoor
