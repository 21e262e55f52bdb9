/- Contracts of the model's own drawing of arguments: settings and their texts. -/
import Derived.Test.YtgfclblooadomaaDoorDraw9
import Derived.Test.YtgfclblooadomaaDoorFs
import Derived.Deep.RegionHeld3
namespace Go.Proofs.YtgfclblooadomaaDoor
open Go.ChangeShapes Go.WideShapes Go.ChangeAt Go.RowKit Go.Joins
set_option linter.unusedVariables false

/-- the strings of a list, in block g -/
def StrsAt (w : World) (g : Nat) (l : List ByteArray) : Prop := ∀ i x, l[i]? = some x → w.cell? ⟨g, i, none⟩ = some (.string x)
def StrOf (T : TypeId) (w : World) (L B q : Nat) (l : List ByteArray) (e : Ending) (w' : World) : Prop := ∃ r : ByteArray, e = .returned (.string r) ∧ r ∈ l ∧ Rd T w' L B (q + 1) ∧ w.grownBy w' (some B)
theorem strsAt_new (w : World) (t : TypeId) (l : List ByteArray) : StrsAt (w.alloc (.cells (l.map Value.string).toArray t)) w.heap.size l := by
  intro i x hx
  rw [(Blk.new w t (l.map Value.string).toArray).cell i]
  simp [hx]

theorem c_of (L B q g n : Nat) (l : List ByteArray) (w : World) (hr : Rd 53 w L B q) (hq : q ≤ 1000000000000) (hl : StrsAt w g l) (hn : l.length = n) (h0 : 0 < n) (h1 : n ≤ 1000) (hg : g ≠ B) :
    Calls Tryd.prog 22 #[.pointer (some ⟨B, 0, none⟩), .slice (some ⟨g, 0, none⟩) n n] w (StrOf 53 w L B q l) := by
  have HN := hid hn
  clear hn
  go_enter Tryd.func22, Tryd.ntmps22
  go_wp2_with fail
  refine (c_pick L B q n w hr hq (by omega)).mono ?_
  rintro e w1 ⟨r, rfl, hr0, hr1, _, hrd, hgr⟩
  have hr2 := hr1 (by omega)
  obtain ⟨R, rfl⟩ := Int.eq_ofNat_of_zero_le hr0
  have hRl : R < l.length := by rw [HN.out]; omega
  obtain ⟨x, hx⟩ : ∃ x, l[R]? = some x := ⟨l[R], List.getElem?_eq_getElem hRl⟩
  have hc : w1.cell? ⟨g, R, none⟩ = some (.string x) := hgr.cell (hl R x hx) (by simp; omega)
  have HM := hid (List.mem_of_getElem? hx)
  clear hx hr1 hRl
  go_wp2
  go_ret
  exact ⟨x, rfl, HM.out, hrd, hgr⟩

theorem Rd.drew {T : TypeId} {w : World} {L B q : Nat} (h : Rd T w L B q) : Rd T w.drew L B q := h
theorem small_of {r : ByteArray} (h : r ∈ [(⟨#[]⟩ : ByteArray), ⟨#[49]⟩, ⟨#[32]⟩, ⟨#[48]⟩, ⟨#[119]⟩]) : r.size ≤ 100 := by
  simp only [List.mem_cons, List.not_mem_nil, or_false] at h
  rcases h with rfl | rfl | rfl | rfl | rfl <;> decide

set_option maxRecDepth 100000 in
theorem c_DrawFormatSetting (A' : Option Addr) (n cap : Nat) (w : World) (L : Nat) (hL : L ≤ w.heap.size) (hc : CodeAt w L A' n cap) : Calls Tryd.prog 4 #[.slice A' n cap] w (ASetting w) := by
  go_enter Tryd.func4, Tryd.ntmps4
  go_wp2_with fail
  obtain ⟨W1, hW1⟩ : ∃ W1, W1 = w.alloc (.cells #[.int .i64 0, .int .i64 0, .int .i64 0] 24) := ⟨_, rfl⟩
  rw [← hW1]
  have hc1 : CodeAt W1 L A' n cap := by rw [hW1]; exact hc.keep (fun k hk => Below.heap_alloc w _ k (by omega))
  have hb1 : Below w.heap.size w W1 := by rw [hW1]; exact bel_alloc (Below.refl _ _) _
  have k1 : Blk W1 w.heap.size 24 #[.int .i64 0, .int .i64 0, .int .i64 0] := by rw [hW1]; exact Blk.new w _ _
  have z1 : w.heap.size + 1 ≤ W1.heap.size := by rw [hW1, alloc_size]; omega
  clear hW1 hc
  refine (c_DrawSettingValid _ _ _ _ L (by omega) hc1).mono ?_
  rintro e w3 ⟨o, l, m, rfl, ho, hl, hm, hb2⟩
  have k4 := k1.below hb2 (by omega)
  have b4 : Below w.heap.size w w3 := hb1.trans (hb2.mono (by omega))
  clear k1 hb1 hb2
  obtain ⟨q0, q1, q2⟩ := k4.cells3
  have f0 := k4.frozen 0
  have f1 := k4.frozen 1
  have f2 := k4.frozen 2
  have k5 : Blk (((w3.setCell ⟨w.heap.size, 0, none⟩ (.int .i64 o)).setCell ⟨w.heap.size, 1, none⟩ (.int .i64 l)).setCell ⟨w.heap.size, 2, none⟩ (.int .i64 m)) w.heap.size 24 #[.int .i64 o, .int .i64 l, .int .i64 m] := ((k4.set_ 0 _).set_ 1 _).set_ 2 _
  obtain ⟨j0, j1, j2⟩ := k5.cells3
  clear k4 k5
  go_wp2
  (try simp only [Exit.inBlock, Exit.then])
  exact bodyPost_ret (v := .agg #[.int .i64 o, .int .i64 l, .int .i64 m]) (by simp [results, Tryd.results4, go_sem, j0, j1, j2]) rfl ⟨o, l, m, rfl, ho, hl, hm, by (repeat (first | exact Below.refl _ _ | assumption | refine bel_alloc ?_ _ | refine bel_drew ?_ | refine bel_drewN ?_ _ | refine bel_set ?_ (by first | omega | (simp; done) | (simp; omega)) _ | refine bel_trans ?_ (by assumption)))⟩

def AStr (w : World) (m : Nat) (e : Ending) (w' : World) : Prop := ∃ s : ByteArray, e = .returned (.string s) ∧ s.size ≤ m ∧ Below w.heap.size w w'
theorem fmtS_size {o l m : Int} (h : setOk o l m = true) : 1 ≤ (fmtS o l m).size ∧ (fmtS o l m).size ≤ 20 := by
  obtain ⟨s1, ⟨s2, s3⟩, s4, s5⟩ := setOk_iff.1 h
  have h1 : (dec l).length ≤ 2 := decD_len 1 l.toNat (by simp; omega)
  have h2 : (dec m).length ≤ 2 := decD_len 1 m.toNat (by simp; omega)
  have h3 : 1 ≤ (ordL o).length ∧ (ordL o).length ≤ 4 := by unfold ordL; split <;> simp
  rw [fmtS, h, if_pos rfl, str_size, fmtL]
  simp only [List.length_append, List.length_cons, List.length_nil]
  omega

set_option maxRecDepth 100000 in
set_option maxHeartbeats 4000000 in
theorem c_DrawParseSetting (A' : Option Addr) (n cap : Nat) (w : World) (L : Nat) (hL : L ≤ w.heap.size) (hc : CodeAt w L A' n cap) : Calls Tryd.prog 9 #[.slice A' n cap] w (AStr w 1000) := by
  go_enter Tryd.func9, Tryd.ntmps9
  go_wp2_with fail
  refine (c_l9Open _ _ _ _ _ hc hL).mono ?_
  rintro e w1 ⟨rfl, hr1, hb1, hz1⟩
  go_wp2_with fail
  refine (c_l1Some _ _ 0 _ hr1 (by omega)).mono ?_
  rintro e w2 ⟨o, l, m, rfl, hok, hr2, hg2⟩
  have b2 := bel_grown hb1 hg2 (Nat.le_refl _)
  obtain ⟨T, hT⟩ : ∃ T, T = fmtS o l m := ⟨_, rfl⟩
  have H1 := hid (show ∀ w, Calls Tryd.prog 6 #[.agg #[.int .i64 o, .int .i64 l, .int .i64 m]] w fun e w' => e = .returned (.string T) ∧ Below w.heap.size w w' by intro w; rw [hT]; exact c_sFormatSetting o l m w)
  have hTz : T.size ≤ 20 := by rw [hT]; exact (fmtS_size hok).2
  have hT1 : 1 ≤ T.size := by rw [hT]; exact (fmtS_size hok).1
  clear hT
  go_wp2_with fail
  refine (H1.out _).mono ?_
  rintro e w3 ⟨rfl, hb3⟩
  have hr3 := hr2.below hb3
  have b3 := bel_trans b2 hb3
  go_wp2_with fail
  refine (c_pick _ _ _ 2 _ hr3 (by omega) (by decide)).mono ?_
  rintro e w4 ⟨x4, rfl, h40, h41, _, hr4, hg4⟩
  have b4 := bel_grown b3 hg4 (Nat.le_refl _)
  by_cases hx : x4 = 0
  · have hb : (x4 == 0) = true := eq_yes hx
    clear hx
    go_wp2
    go_ret
    exact ⟨T, rfl, by omega, b4⟩
  · have hb : (x4 == 0) = false := by simpa using hx
    clear hx
    go_wp2_with fail
    refine (c_pick _ _ _ T.size _ hr4 (by omega) (by omega)).mono ?_
    rintro e w5 ⟨k, rfl, h50, h51, _, hr5, hg5⟩
    have h52 := h51 (by omega)
    have b5 := bel_grown b4 hg5 (Nat.le_refl _)
    clear h51 hg5 b4
    have hBB : w.heap.size ≤ w.heap.size := Nat.le_refl _
    obtain ⟨P1, hP1⟩ : ∃ P1, P1 = T.extract 0 k.toNat := ⟨_, rfl⟩
    obtain ⟨P2, hP2⟩ : ∃ P2 : Int → ByteArray, P2 = fun j => T.extract (k + j).toNat T.size := ⟨_, rfl⟩
    have z1 : P1.size ≤ 100 := by rw [hP1, ByteArray.size_extract]; omega
    have z2 : ∀ j, (P2 j).size ≤ 100 := by intro j; rw [hP2]; simp only [ByteArray.size_extract]; omega
    have a1 : ∀ W, (Instr.slice 9 (.string T) none (some (.int .i64 k)) none).run Tryd.prog W = .ok (.string P1) W := by
      intro W; rw [run_slice_string_to_if W _ _ _ _ Tryd.underlying9, if_pos (by omega), hP1]
    have a2 : ∀ j W, 0 ≤ j → j < 2 → (Instr.slice 9 (.string T) (some (.int .i64 (k + j))) none none).run Tryd.prog W = .ok (.string (P2 j)) W := by
      intro j W j0 j1; rw [run_slice_string_from_if W _ _ _ _ Tryd.underlying9, if_pos (by omega), hP2]
    have a3 : ∀ j : Int, 0 ≤ j → j < 2 → IntKind.i64.wrap (k + j) = k + j := fun j j0 j1 => IntWalk.i64_in _ (by omega)
    have a4 : ∀ (r : ByteArray) W, r.size ≤ 100 → (Op.stringOp .add P1 r).run Tryd.prog W = .ok (.string (P1 ++ r)) W := fun r W hr => run_string_add W _ _ (by omega) (by omega)
    have a5 : ∀ (r : ByteArray) (j : Int) W, r.size ≤ 100 → (Op.stringOp .add (P1 ++ r) (P2 j)).run Tryd.prog W = .ok (.string (P1 ++ r ++ P2 j)) W := fun r j W hr => run_string_add W _ _ (by rw [ByteArray.size_append]; omega) (by have := z2 j; omega)
    clear hP1 hP2
    go_wp2_with fail
    go_region_held3 (fun v : World => Below w.heap.size w v)
      (first | assumption | exact bel_drew b5 | exact bel_alloc (by assumption) _ | exact bel_grown (by assumption) hg7 hBB | exact bel_grown (by assumption) hg8 hBB)
      (first | (go_at_call 22; refine (c_of L w.heap.size 7 _ 5 [⟨#[]⟩, ⟨#[49]⟩, ⟨#[32]⟩, ⟨#[48]⟩, ⟨#[119]⟩] _ (Rd.alloc (Rd.drew hr5) _) (by omega) (by exact strsAt_new w5.drew _ _) rfl (by decide) (by decide) (by have := hr5.lt; simp; omega)).mono ?_; rintro e w7 ⟨r, rfl, hrm, hr7, hg7⟩; have hrs := small_of hrm) | (go_at_call 21; refine (c_pick L w.heap.size 8 2 w7 hr7 (by omega) (by decide)).mono ?_; rintro e w8 ⟨j, rfl, j0, j1, _, hr8, hg8⟩; have j2 := j1 (by decide); clear j1))
    all_goals
      go_wp2
      go_ret
      exact ⟨P1 ++ r ++ P2 j, rfl, by rw [ByteArray.size_append, ByteArray.size_append]; have := z2 j; omega, by assumption⟩
end Go.Proofs.YtgfclblooadomaaDoor
