/- Contracts of the next code, of what grows, of the greatest code and its width, in both programs. No condition but that what is known is valid. -/
import Derived.Test.YtoiifopjipfjhaaKw
import Derived.Test.YtoiifopjipfjhaaTr
namespace Go.Proofs.Ytoiifopjipfjhaa
open Go.ChangeShapes Go.WideShapes Go.ChangeAt Go.RowKit Go.Joins
set_option linter.unusedVariables false

theorem next_eq (k : Kn) : k.next = pow2 k.l + 2 + k.ps.length := rfl
theorem next_bd {k : Kn} (h : k.Ok) : 4 ≤ k.next ∧ k.next ≤ 1024 := by have := h.next_le; have := h.cbd; rw [next_eq]; have := h.cbd; unfold Kn.c at *; unfold Kn.next Kn.c at *; omega

theorem c_l2Next (k : Kn) (A : Option Addr) (cap : Nat) (w : World) (h : k.Ok) : Calls Try.prog 127 #[.agg #[.int .i64 k.o, .int .i64 k.l, .int .i64 k.m, .slice A k.ps.length cap, .int .i64 k.base, .int .i64 k.last]] w fun e w' => e = .returned (.int .i64 k.next) ∧ Below w.heap.size w w' := by
  have hp := set_bd h.set
  obtain ⟨_, ⟨hl1, hl2⟩, hm1, hm2⟩ := setOk_iff.1 h.set
  have hlen := h.len
  have HS := hid ((Blk.new w 28 #[.int .i64 k.o, .int .i64 k.l, .int .i64 k.m, .slice A k.ps.length cap, .int .i64 k.base, .int .i64 k.last]).kat.held (bel_alloc (Below.refl _ w) (.cells #[.int .i64 k.o, .int .i64 k.l, .int .i64 k.m, .slice A k.ps.length cap, .int .i64 k.base, .int .i64 k.last] 28)))
  have HE := hid (fun (v : World) => c_l1End k.o k.l k.m v (by omega) (by omega))
  have ew1 : IntKind.i64.wrap (pow2 k.l + 1 + 1) = pow2 k.l + 1 + 1 := IntWalk.i64_in _ (by omega)
  have ew2 : IntKind.i64.wrap (pow2 k.l + 1 + 1 + (k.ps.length : Int)) = pow2 k.l + 1 + 1 + (k.ps.length : Int) := IntWalk.i64_in _ (by omega)
  go_enter Try.func127, Try.ntmps127
  go_wp2_with fail
  have hS := HS.out
  refine wp_region_noPanic ?_
  refine wp_region_held_drew (S := (fun v => v.cell? ⟨w.heap.size, 0, none⟩ = some (.int .i64 k.o) ∧ v.cell? ⟨w.heap.size, 1, none⟩ = some (.int .i64 k.l) ∧ v.cell? ⟨w.heap.size, 2, none⟩ = some (.int .i64 k.m) ∧ v.cell? ⟨w.heap.size, 3, none⟩ = some (.slice A k.ps.length cap) ∧ v.cell? ⟨w.heap.size, 4, none⟩ = some (.int .i64 k.base) ∧ v.cell? ⟨w.heap.size, 5, none⟩ = some (.int .i64 k.last) ∧ Below w.heap.size w v)) (by kernel_rfl) (s6_drew hS) (fun hHeld => ?_)
  refine wpAnyH_take (i := 0) (oi := ?or19_0) (v := ?vr19_0) ?ir19_0 (by kernel_rfl) (by kernel_rfl) (by kernel_rfl) (fun _ _ _ h => h) ?yr19_0 (by assumption) ?wr19_0
  case ir19_0 => (simp only [List.getElem?_toArray, List.getElem?_cons_zero]; rfl)
  case yr19_0 => exact Or.inl ⟨by rfl, by intro v hSw; (try dsimp only at hSw); go_simp; try with_reducible rfl⟩
  try simp only [Act.put, List.setIfInBounds_toArray, List.set_cons_zero, List.set_cons_succ]
  refine wpAnyH_take (i := 1) (oi := ?or19_1) (v := ?vr19_1) ?ir19_1 (by kernel_rfl) (by kernel_rfl) (by kernel_rfl) (fun _ _ _ h => h) ?yr19_1 (by assumption) ?wr19_1
  case ir19_1 => (simp only [List.getElem?_toArray, List.getElem?_cons_succ, List.getElem?_cons_zero]; rfl)
  case yr19_1 => exact Or.inl ⟨by rfl, by intro v hSw; (try dsimp only at hSw); go_simp; try with_reducible rfl⟩
  try simp only [Act.put, List.setIfInBounds_toArray, List.set_cons_zero, List.set_cons_succ]
  refine wpAnyH_take (i := 4) (oi := ?or19_4) (v := ?vr19_4) ?ir19_4 (by kernel_rfl) (by kernel_rfl) (by kernel_rfl) (fun _ _ _ h => h) ?yr19_4 (by assumption) ?wr19_4
  case ir19_4 => (simp only [List.getElem?_toArray, List.getElem?_cons_succ, List.getElem?_cons_zero]; rfl)
  case yr19_4 => exact Or.inl ⟨by rfl, by intro v hSw; (try dsimp only at hSw); go_simp; try with_reducible rfl⟩
  try simp only [Act.put, List.setIfInBounds_toArray, List.set_cons_zero, List.set_cons_succ]
  refine wpAnyH_take (i := 5) (oi := ?or19_5) (v := ?vr19_5) ?ir19_5 (by kernel_rfl) (by kernel_rfl) (by kernel_rfl) (fun _ _ _ h => h) ?yr19_5 (by assumption) ?wr19_5
  case ir19_5 => (simp only [List.getElem?_toArray, List.getElem?_cons_succ, List.getElem?_cons_zero]; rfl)
  case yr19_5 => exact Or.inl ⟨by rfl, by intro v hSw; (try dsimp only at hSw); go_simp; try with_reducible rfl⟩
  try simp only [Act.put, List.setIfInBounds_toArray, List.set_cons_zero, List.set_cons_succ]
  refine wpAnyH_take (i := 6) (oi := ?or19_6) (v := ?vr19_6) ?ir19_6 (by kernel_rfl) (by kernel_rfl) (by kernel_rfl) (fun _ _ _ h => h) ?yr19_6 (by assumption) ?wr19_6
  case ir19_6 => (simp only [List.getElem?_toArray, List.getElem?_cons_succ, List.getElem?_cons_zero]; rfl)
  case yr19_6 => exact Or.inl ⟨by rfl, by intro v hSw; (try dsimp only at hSw); go_simp; try with_reducible rfl⟩
  try simp only [Act.put, List.setIfInBounds_toArray, List.set_cons_zero, List.set_cons_succ]
  refine wpAnyH_ready (rs := [2]) (by kernel_rfl) (by simp) ?_
  refine AllReadyH.cons (o := ?or19_2) ?ir19_2 (fun K hK => ?sr19_2) AllReadyH.nil
  case ir19_2 => (simp only [List.getElem?_toArray, List.getElem?_cons_succ, List.getElem?_cons_zero]; rfl)
  (first | (go_simp; (first | (go_at_call 126; refine (HE.out _).mono ?_; rintro e w1 ⟨rfl, hb1⟩) | skip)))
  refine hK.out _ _ ?kr19_2 (fun hHeld => ?_)
  case kr19_2 => (try dsimp only); (first | with_reducible assumption | exact s6_bel (by assumption) (by assumption) | assumption | exact s6_alloc (by assumption) _)
  clear hK K
  try simp only [Act.put, List.setIfInBounds_toArray, List.set_cons_zero, List.set_cons_succ]
  refine wpAnyH_take (i := 3) (oi := ?or19_3) (v := ?vr19_3) ?ir19_3 (by kernel_rfl) (by kernel_rfl) (by kernel_rfl) (fun _ _ _ h => h) ?yr19_3 (by assumption) ?wr19_3
  case ir19_3 => (simp only [List.getElem?_toArray, List.getElem?_cons_succ, List.getElem?_cons_zero]; rfl)
  case yr19_3 => exact Or.inl ⟨by rfl, by intro v hSw; (try dsimp only at hSw); go_simp; try with_reducible rfl⟩
  try simp only [Act.put, List.setIfInBounds_toArray, List.set_cons_zero, List.set_cons_succ]
  refine wpAnyH_take (i := 7) (oi := ?or19_7) (v := ?vr19_7) ?ir19_7 (by kernel_rfl) (by kernel_rfl) (by kernel_rfl) (fun _ _ _ h => h) ?yr19_7 (by assumption) ?wr19_7
  case ir19_7 => (simp only [List.getElem?_toArray, List.getElem?_cons_succ, List.getElem?_cons_zero]; rfl)
  case yr19_7 => exact Or.inl ⟨by rfl, by intro v hSw; (try dsimp only at hSw); go_simp; try with_reducible rfl⟩
  try simp only [Act.put, List.setIfInBounds_toArray, List.set_cons_zero, List.set_cons_succ]
  refine wpAnyH_take (i := 8) (oi := ?or19_8) (v := ?vr19_8) ?ir19_8 (by kernel_rfl) (by kernel_rfl) (by kernel_rfl) (fun _ _ _ h => h) ?yr19_8 (by assumption) ?wr19_8
  case ir19_8 => (simp only [List.getElem?_toArray, List.getElem?_cons_succ, List.getElem?_cons_zero]; rfl)
  case yr19_8 => exact Or.inl ⟨by rfl, by intro v hSw; (try dsimp only at hSw); go_simp; try with_reducible rfl⟩
  try simp only [Act.put, List.setIfInBounds_toArray, List.set_cons_zero, List.set_cons_succ]
  refine wpAnyH_done (by kernel_rfl) ?_ _
  refine NoPanic.normal ?_
  go_wp2
  go_ret
  exact ⟨ret_int (by rw [next_eq]; omega), by (repeat (first | with_reducible assumption | with_reducible exact Below.refl _ _ | with_reducible refine bel_alloc ?_ _ | with_reducible refine bel_drew ?_ | with_reducible refine bel_drewN ?_ _ | with_reducible refine bel_set ?_ (by first | omega | (simp; done) | (simp; omega)) _ | with_reducible refine bel_trans ?_ (by with_reducible assumption) | exact Below.refl _ _ | assumption | refine bel_alloc ?_ _ | refine bel_drew ?_ | refine bel_drewN ?_ _ | refine bel_set ?_ (by first | omega | (simp; done) | (simp; omega)) _ | refine bel_trans ?_ (by assumption)))⟩

theorem c_l2Grows (k : Kn) (A : Option Addr) (cap : Nat) (w : World) (h : k.Ok) : Calls Try.prog 177 #[.agg #[.int .i64 k.o, .int .i64 k.l, .int .i64 k.m, .slice A k.ps.length cap, .int .i64 k.base, .int .i64 k.last]] w fun e w' => e = .returned (.bool k.grows) ∧ Below w.heap.size w w' := by
  have hp := set_bd h.set
  obtain ⟨_, ⟨hl1, hl2⟩, hm1, hm2⟩ := setOk_iff.1 h.set
  have hlen := h.len
  have HS := hid ((Blk.new w 28 #[.int .i64 k.o, .int .i64 k.l, .int .i64 k.m, .slice A k.ps.length cap, .int .i64 k.base, .int .i64 k.last]).kat.held (bel_alloc (Below.refl _ w) (.cells #[.int .i64 k.o, .int .i64 k.l, .int .i64 k.m, .slice A k.ps.length cap, .int .i64 k.base, .int .i64 k.last] 28)))
  have HN := hid (fun (v : World) => c_l2Next k A cap v h)
  have HL := hid (fun (v : World) => c_l1Last k.o k.l k.m v (by omega) (by omega))
  have hlb := h.lastBd
  have hnb := next_bd h
  generalize hnx : k.next = nx at hnb
  rw [hnx] at HN
  by_cases h1 : 0 ≤ k.last
  · have h2 : decide (0 ≤ k.last) = true := by simp [h1]
    have HG := hid (show k.grows = decide (nx ≤ pow2 k.m - 1) by rw [← hnx]; simp [Kn.grows, h1, Kn.lc])
    clear hnx hlb
    go_enter Try.func177, Try.ntmps177
    go_wp2_with fail
    have hS := HS.out
    refine wp_region_noPanic ?_
    refine wp_region_held_drew (S := (fun v => v.cell? ⟨w.heap.size, 0, none⟩ = some (.int .i64 k.o) ∧ v.cell? ⟨w.heap.size, 1, none⟩ = some (.int .i64 k.l) ∧ v.cell? ⟨w.heap.size, 2, none⟩ = some (.int .i64 k.m) ∧ v.cell? ⟨w.heap.size, 3, none⟩ = some (.slice A k.ps.length cap) ∧ v.cell? ⟨w.heap.size, 4, none⟩ = some (.int .i64 k.base) ∧ v.cell? ⟨w.heap.size, 5, none⟩ = some (.int .i64 k.last) ∧ Below w.heap.size w v)) (by kernel_rfl) (s6_drew hS) (fun hHeld => ?_)
    refine wpAnyH_take (i := 0) (oi := ?or20_0) (v := ?vr20_0) ?ir20_0 (by kernel_rfl) (by kernel_rfl) (by kernel_rfl) (fun _ _ _ h => h) ?yr20_0 (by assumption) ?wr20_0
    case ir20_0 => (simp only [List.getElem?_toArray, List.getElem?_cons_zero]; rfl)
    case yr20_0 => exact Or.inl ⟨by rfl, by intro v hSw; (try dsimp only at hSw); go_simp; try with_reducible rfl⟩
    try simp only [Act.put, List.setIfInBounds_toArray, List.set_cons_zero, List.set_cons_succ]
    refine wpAnyH_take (i := 1) (oi := ?or20_1) (v := ?vr20_1) ?ir20_1 (by kernel_rfl) (by kernel_rfl) (by kernel_rfl) (fun _ _ _ h => h) ?yr20_1 (by assumption) ?wr20_1
    case ir20_1 => (simp only [List.getElem?_toArray, List.getElem?_cons_succ, List.getElem?_cons_zero]; rfl)
    case yr20_1 => exact Or.inl ⟨by rfl, by intro v hSw; (try dsimp only at hSw); go_simp; try with_reducible rfl⟩
    try simp only [Act.put, List.setIfInBounds_toArray, List.set_cons_zero, List.set_cons_succ]
    refine wpAnyH_take (i := 2) (oi := ?or20_2) (v := ?vr20_2) ?ir20_2 (by kernel_rfl) (by kernel_rfl) (by kernel_rfl) (fun _ _ _ h => h) ?yr20_2 (by assumption) ?wr20_2
    case ir20_2 => (simp only [List.getElem?_toArray, List.getElem?_cons_succ, List.getElem?_cons_zero]; rfl)
    case yr20_2 => exact Or.inl ⟨by rfl, by intro v hSw; (try dsimp only at hSw); go_simp; try with_reducible rfl⟩
    try simp only [Act.put, List.setIfInBounds_toArray, List.set_cons_zero, List.set_cons_succ]
    refine wpAnyH_take (i := 3) (oi := ?or20_3) (v := ?vr20_3) ?ir20_3 (by kernel_rfl) (by kernel_rfl) (by kernel_rfl) (fun _ _ _ h => h) ?yr20_3 (by assumption) ?wr20_3
    case ir20_3 => (simp only [List.getElem?_toArray, List.getElem?_cons_succ, List.getElem?_cons_zero]; rfl)
    case yr20_3 => exact Or.inl ⟨by rfl, by intro v hSw; (try dsimp only at hSw); go_simp; try with_reducible rfl⟩
    try simp only [Act.put, List.setIfInBounds_toArray, List.set_cons_zero, List.set_cons_succ]
    refine wpAnyH_take (i := 4) (oi := ?or20_4) (v := ?vr20_4) ?ir20_4 (by kernel_rfl) (by kernel_rfl) (by kernel_rfl) (fun _ _ _ h => h) ?yr20_4 (by assumption) ?wr20_4
    case ir20_4 => (simp only [List.getElem?_toArray, List.getElem?_cons_succ, List.getElem?_cons_zero]; rfl)
    case yr20_4 => exact Or.inl ⟨by rfl, by intro v hSw; (try dsimp only at hSw); go_simp; try with_reducible rfl⟩
    try simp only [Act.put, List.setIfInBounds_toArray, List.set_cons_zero, List.set_cons_succ]
    refine wpAnyH_take (i := 6) (oi := ?or20_6) (v := ?vr20_6) ?ir20_6 (by kernel_rfl) (by kernel_rfl) (by kernel_rfl) (fun _ _ _ h => h) ?yr20_6 (by assumption) ?wr20_6
    case ir20_6 => (simp only [List.getElem?_toArray, List.getElem?_cons_succ, List.getElem?_cons_zero]; rfl)
    case yr20_6 => exact Or.inl ⟨by rfl, by intro v hSw; (try dsimp only at hSw); go_simp; try with_reducible rfl⟩
    try simp only [Act.put, List.setIfInBounds_toArray, List.set_cons_zero, List.set_cons_succ]
    refine wpAnyH_take (i := 7) (oi := ?or20_7) (v := ?vr20_7) ?ir20_7 (by kernel_rfl) (by kernel_rfl) (by kernel_rfl) (fun _ _ _ h => h) ?yr20_7 (by assumption) ?wr20_7
    case ir20_7 => (simp only [List.getElem?_toArray, List.getElem?_cons_succ, List.getElem?_cons_zero]; rfl)
    case yr20_7 => exact Or.inl ⟨by rfl, by intro v hSw; (try dsimp only at hSw); go_simp; try with_reducible rfl⟩
    try simp only [Act.put, List.setIfInBounds_toArray, List.set_cons_zero, List.set_cons_succ]
    refine wpAnyH_ready (rs := [5]) (by kernel_rfl) (by simp) ?_
    refine AllReadyH.cons (o := ?or20_5) ?ir20_5 (fun K hK => ?sr20_5) AllReadyH.nil
    case ir20_5 => (simp only [List.getElem?_toArray, List.getElem?_cons_succ, List.getElem?_cons_zero]; rfl)
    (first | (go_simp; (first | (go_at_call 127; refine (HN.out _).mono ?_; rintro e w1 ⟨rfl, hb1⟩) | (go_at_call 175; refine (HL.out _).mono ?_; rintro e w1 ⟨rfl, hb1⟩) | skip)))
    refine hK.out _ _ ?kr20_5 (fun hHeld => ?_)
    case kr20_5 => (try dsimp only); (first | with_reducible assumption | exact s6_bel (by assumption) (by assumption) | assumption | exact s6_alloc (by assumption) _)
    clear hK K
    try simp only [Act.put, List.setIfInBounds_toArray, List.set_cons_zero, List.set_cons_succ]
    refine wpAnyH_ready (rs := [8]) (by kernel_rfl) (by simp) ?_
    refine AllReadyH.cons (o := ?or20_8) ?ir20_8 (fun K hK => ?sr20_8) AllReadyH.nil
    case ir20_8 => (simp only [List.getElem?_toArray, List.getElem?_cons_succ, List.getElem?_cons_zero]; rfl)
    (first | (go_simp; (first | (go_at_call 127; refine (HN.out _).mono ?_; rintro e w1 ⟨rfl, hb1⟩) | (go_at_call 175; refine (HL.out _).mono ?_; rintro e w1 ⟨rfl, hb1⟩) | skip)))
    refine hK.out _ _ ?kr20_8 (fun hHeld => ?_)
    case kr20_8 => (try dsimp only); (first | with_reducible assumption | exact s6_bel (by assumption) (by assumption) | assumption | exact s6_alloc (by assumption) _)
    clear hK K
    try simp only [Act.put, List.setIfInBounds_toArray, List.set_cons_zero, List.set_cons_succ]
    refine wpAnyH_take (i := 9) (oi := ?or20_9) (v := ?vr20_9) ?ir20_9 (by kernel_rfl) (by kernel_rfl) (by kernel_rfl) (fun _ _ _ h => h) ?yr20_9 (by assumption) ?wr20_9
    case ir20_9 => (simp only [List.getElem?_toArray, List.getElem?_cons_succ, List.getElem?_cons_zero]; rfl)
    case yr20_9 => exact Or.inl ⟨by rfl, by intro v hSw; (try dsimp only at hSw); go_simp; try with_reducible rfl⟩
    try simp only [Act.put, List.setIfInBounds_toArray, List.set_cons_zero, List.set_cons_succ]
    refine wpAnyH_take (i := 10) (oi := ?or20_10) (v := ?vr20_10) ?ir20_10 (by kernel_rfl) (by kernel_rfl) (by kernel_rfl) (fun _ _ _ h => h) ?yr20_10 (by assumption) ?wr20_10
    case ir20_10 => (simp only [List.getElem?_toArray, List.getElem?_cons_succ, List.getElem?_cons_zero]; rfl)
    case yr20_10 => exact Or.inl ⟨by rfl, by intro v hSw; (try dsimp only at hSw); go_simp; try with_reducible rfl⟩
    try simp only [Act.put, List.setIfInBounds_toArray, List.set_cons_zero, List.set_cons_succ]
    refine wpAnyH_take (i := 11) (oi := ?or20_11) (v := ?vr20_11) ?ir20_11 (by kernel_rfl) (by kernel_rfl) (by kernel_rfl) (fun _ _ _ h => h) ?yr20_11 (by assumption) ?wr20_11
    case ir20_11 => (simp only [List.getElem?_toArray, List.getElem?_cons_succ, List.getElem?_cons_zero]; rfl)
    case yr20_11 => exact Or.inl ⟨by rfl, by intro v hSw; (try dsimp only at hSw); go_simp; try with_reducible rfl⟩
    try simp only [Act.put, List.setIfInBounds_toArray, List.set_cons_zero, List.set_cons_succ]
    refine wpAnyH_done (by kernel_rfl) ?_ _
    refine NoPanic.normal ?_
    all_goals
      go_wp2
      go_ret
      exact ⟨ret_bool HG.out.symm, by (repeat (first | with_reducible assumption | with_reducible exact Below.refl _ _ | with_reducible refine bel_alloc ?_ _ | with_reducible refine bel_drew ?_ | with_reducible refine bel_drewN ?_ _ | with_reducible refine bel_set ?_ (by first | omega | (simp; done) | (simp; omega)) _ | with_reducible refine bel_trans ?_ (by with_reducible assumption) | exact Below.refl _ _ | assumption | refine bel_alloc ?_ _ | refine bel_drew ?_ | refine bel_drewN ?_ _ | refine bel_set ?_ (by first | omega | (simp; done) | (simp; omega)) _ | refine bel_trans ?_ (by assumption)))⟩
  · have h2 : decide (0 ≤ k.last) = false := by simp; omega
    have HG := hid (show k.grows = false by simp [Kn.grows]; omega)
    clear hnx hlb
    go_enter Try.func177, Try.ntmps177
    go_wp2_with fail
    have hS := HS.out
    refine wp_region_noPanic ?_
    refine wp_region_held_drew (S := (fun v => v.cell? ⟨w.heap.size, 0, none⟩ = some (.int .i64 k.o) ∧ v.cell? ⟨w.heap.size, 1, none⟩ = some (.int .i64 k.l) ∧ v.cell? ⟨w.heap.size, 2, none⟩ = some (.int .i64 k.m) ∧ v.cell? ⟨w.heap.size, 3, none⟩ = some (.slice A k.ps.length cap) ∧ v.cell? ⟨w.heap.size, 4, none⟩ = some (.int .i64 k.base) ∧ v.cell? ⟨w.heap.size, 5, none⟩ = some (.int .i64 k.last) ∧ Below w.heap.size w v)) (by kernel_rfl) (s6_drew hS) (fun hHeld => ?_)
    refine wpAnyH_take (i := 0) (oi := ?or21_0) (v := ?vr21_0) ?ir21_0 (by kernel_rfl) (by kernel_rfl) (by kernel_rfl) (fun _ _ _ h => h) ?yr21_0 (by assumption) ?wr21_0
    case ir21_0 => (simp only [List.getElem?_toArray, List.getElem?_cons_zero]; rfl)
    case yr21_0 => exact Or.inl ⟨by rfl, by intro v hSw; (try dsimp only at hSw); go_simp; try with_reducible rfl⟩
    try simp only [Act.put, List.setIfInBounds_toArray, List.set_cons_zero, List.set_cons_succ]
    refine wpAnyH_take (i := 1) (oi := ?or21_1) (v := ?vr21_1) ?ir21_1 (by kernel_rfl) (by kernel_rfl) (by kernel_rfl) (fun _ _ _ h => h) ?yr21_1 (by assumption) ?wr21_1
    case ir21_1 => (simp only [List.getElem?_toArray, List.getElem?_cons_succ, List.getElem?_cons_zero]; rfl)
    case yr21_1 => exact Or.inl ⟨by rfl, by intro v hSw; (try dsimp only at hSw); go_simp; try with_reducible rfl⟩
    try simp only [Act.put, List.setIfInBounds_toArray, List.set_cons_zero, List.set_cons_succ]
    refine wpAnyH_take (i := 2) (oi := ?or21_2) (v := ?vr21_2) ?ir21_2 (by kernel_rfl) (by kernel_rfl) (by kernel_rfl) (fun _ _ _ h => h) ?yr21_2 (by assumption) ?wr21_2
    case ir21_2 => (simp only [List.getElem?_toArray, List.getElem?_cons_succ, List.getElem?_cons_zero]; rfl)
    case yr21_2 => exact Or.inl ⟨by rfl, by intro v hSw; (try dsimp only at hSw); go_simp; try with_reducible rfl⟩
    try simp only [Act.put, List.setIfInBounds_toArray, List.set_cons_zero, List.set_cons_succ]
    refine wpAnyH_take (i := 3) (oi := ?or21_3) (v := ?vr21_3) ?ir21_3 (by kernel_rfl) (by kernel_rfl) (by kernel_rfl) (fun _ _ _ h => h) ?yr21_3 (by assumption) ?wr21_3
    case ir21_3 => (simp only [List.getElem?_toArray, List.getElem?_cons_succ, List.getElem?_cons_zero]; rfl)
    case yr21_3 => exact Or.inl ⟨by rfl, by intro v hSw; (try dsimp only at hSw); go_simp; try with_reducible rfl⟩
    try simp only [Act.put, List.setIfInBounds_toArray, List.set_cons_zero, List.set_cons_succ]
    refine wpAnyH_take (i := 4) (oi := ?or21_4) (v := undef) ?ir21_4 (by kernel_rfl) (by kernel_rfl) (by kernel_rfl) (fun _ _ _ h => h) ?yr21_4 (by assumption) ?wr21_4
    case ir21_4 => (simp only [List.getElem?_toArray, List.getElem?_cons_succ, List.getElem?_cons_zero]; rfl)
    case yr21_4 => exact Or.inr ⟨by rfl, rfl⟩
    try simp only [Act.put, List.setIfInBounds_toArray, List.set_cons_zero, List.set_cons_succ]
    refine wpAnyH_take (i := 5) (oi := ?or21_5) (v := undef) ?ir21_5 (by kernel_rfl) (by kernel_rfl) (by kernel_rfl) (fun _ _ _ h => h) ?yr21_5 (by assumption) ?wr21_5
    case ir21_5 => (simp only [List.getElem?_toArray, List.getElem?_cons_succ, List.getElem?_cons_zero]; rfl)
    case yr21_5 => exact Or.inr ⟨by rfl, rfl⟩
    try simp only [Act.put, List.setIfInBounds_toArray, List.set_cons_zero, List.set_cons_succ]
    refine wpAnyH_take (i := 6) (oi := ?or21_6) (v := undef) ?ir21_6 (by kernel_rfl) (by kernel_rfl) (by kernel_rfl) (fun _ _ _ h => h) ?yr21_6 (by assumption) ?wr21_6
    case ir21_6 => (simp only [List.getElem?_toArray, List.getElem?_cons_succ, List.getElem?_cons_zero]; rfl)
    case yr21_6 => exact Or.inr ⟨by rfl, rfl⟩
    try simp only [Act.put, List.setIfInBounds_toArray, List.set_cons_zero, List.set_cons_succ]
    refine wpAnyH_take (i := 7) (oi := ?or21_7) (v := undef) ?ir21_7 (by kernel_rfl) (by kernel_rfl) (by kernel_rfl) (fun _ _ _ h => h) ?yr21_7 (by assumption) ?wr21_7
    case ir21_7 => (simp only [List.getElem?_toArray, List.getElem?_cons_succ, List.getElem?_cons_zero]; rfl)
    case yr21_7 => exact Or.inr ⟨by rfl, rfl⟩
    try simp only [Act.put, List.setIfInBounds_toArray, List.set_cons_zero, List.set_cons_succ]
    refine wpAnyH_take (i := 8) (oi := ?or21_8) (v := undef) ?ir21_8 (by kernel_rfl) (by kernel_rfl) (by kernel_rfl) (fun _ _ _ h => h) ?yr21_8 (by assumption) ?wr21_8
    case ir21_8 => (simp only [List.getElem?_toArray, List.getElem?_cons_succ, List.getElem?_cons_zero]; rfl)
    case yr21_8 => exact Or.inr ⟨by rfl, rfl⟩
    try simp only [Act.put, List.setIfInBounds_toArray, List.set_cons_zero, List.set_cons_succ]
    refine wpAnyH_take (i := 9) (oi := ?or21_9) (v := undef) ?ir21_9 (by kernel_rfl) (by kernel_rfl) (by kernel_rfl) (fun _ _ _ h => h) ?yr21_9 (by assumption) ?wr21_9
    case ir21_9 => (simp only [List.getElem?_toArray, List.getElem?_cons_succ, List.getElem?_cons_zero]; rfl)
    case yr21_9 => exact Or.inr ⟨by rfl, rfl⟩
    try simp only [Act.put, List.setIfInBounds_toArray, List.set_cons_zero, List.set_cons_succ]
    refine wpAnyH_take (i := 10) (oi := ?or21_10) (v := ?vr21_10) ?ir21_10 (by kernel_rfl) (by kernel_rfl) (by kernel_rfl) (fun _ _ _ h => h) ?yr21_10 (by assumption) ?wr21_10
    case ir21_10 => (simp only [List.getElem?_toArray, List.getElem?_cons_succ, List.getElem?_cons_zero]; rfl)
    case yr21_10 => exact Or.inl ⟨by rfl, by intro v hSw; (try dsimp only at hSw); go_simp; try with_reducible rfl⟩
    try simp only [Act.put, List.setIfInBounds_toArray, List.set_cons_zero, List.set_cons_succ]
    refine wpAnyH_take (i := 11) (oi := ?or21_11) (v := ?vr21_11) ?ir21_11 (by kernel_rfl) (by kernel_rfl) (by kernel_rfl) (fun _ _ _ h => h) ?yr21_11 (by assumption) ?wr21_11
    case ir21_11 => (simp only [List.getElem?_toArray, List.getElem?_cons_succ, List.getElem?_cons_zero]; rfl)
    case yr21_11 => exact Or.inl ⟨by rfl, by intro v hSw; (try dsimp only at hSw); go_simp; try with_reducible rfl⟩
    try simp only [Act.put, List.setIfInBounds_toArray, List.set_cons_zero, List.set_cons_succ]
    refine wpAnyH_done (by kernel_rfl) ?_ _
    refine NoPanic.normal ?_
    go_wp2
    go_ret
    exact ⟨ret_bool HG.out.symm, by (repeat (first | with_reducible assumption | with_reducible exact Below.refl _ _ | with_reducible refine bel_alloc ?_ _ | with_reducible refine bel_drew ?_ | with_reducible refine bel_drewN ?_ _ | with_reducible refine bel_set ?_ (by first | omega | (simp; done) | (simp; omega)) _ | with_reducible refine bel_trans ?_ (by with_reducible assumption) | exact Below.refl _ _ | assumption | refine bel_alloc ?_ _ | refine bel_drew ?_ | refine bel_drewN ?_ _ | refine bel_set ?_ (by first | omega | (simp; done) | (simp; omega)) _ | refine bel_trans ?_ (by assumption)))⟩

theorem c_l2Greatest (k : Kn) (A : Option Addr) (cap : Nat) (w : World) (h : k.Ok) : Calls Try.prog 119 #[.agg #[.int .i64 k.o, .int .i64 k.l, .int .i64 k.m, .slice A k.ps.length cap, .int .i64 k.base, .int .i64 k.last]] w fun e w' => e = .returned (.int .i64 k.great) ∧ Below w.heap.size w w' := by
  have HN := hid (fun (v : World) => c_l2Next k A cap v h)
  have HG := hid (fun (v : World) => c_l2Grows k A cap v h)
  have hnb := next_bd h
  generalize hnx : k.next = nx at hnb
  rw [hnx] at HN
  cases hg : k.grows with
  | true =>
    rw [hg] at HG
    have HR := hid (show k.great = nx by rw [← hnx]; simp [Kn.great, hg])
    clear hnx hg
    go_enter Try.func119, Try.ntmps119
    go_wp2_with fail
    refine (HG.out _).mono ?_
    rintro e w1 ⟨rfl, hb1⟩
    have hc1 := bcell hb1
    have hz1_0 : w.heap.size < w1.heap.size := (by have := hb1.size; first | omega | (simp at this; omega))
    go_wp2_with fail
    refine (HN.out _).mono ?_
    rintro e w2 ⟨rfl, hb2⟩
    have hc2 := bcell hb2
    have hz2_0 : w.heap.size < w2.heap.size := (by have := hb2.size; first | omega | (simp at this; omega))
    go_wp2
    go_ret
    exact ⟨ret_int HR.out.symm, by (repeat (first | with_reducible assumption | with_reducible exact Below.refl _ _ | with_reducible refine bel_alloc ?_ _ | with_reducible refine bel_drew ?_ | with_reducible refine bel_drewN ?_ _ | with_reducible refine bel_set ?_ (by first | omega | (simp; done) | (simp; omega)) _ | with_reducible refine bel_trans ?_ (by with_reducible assumption) | exact Below.refl _ _ | assumption | refine bel_alloc ?_ _ | refine bel_drew ?_ | refine bel_drewN ?_ _ | refine bel_set ?_ (by first | omega | (simp; done) | (simp; omega)) _ | refine bel_trans ?_ (by assumption)))⟩
  | false =>
    rw [hg] at HG
    have HR := hid (show k.great = nx - 1 by rw [← hnx]; simp [Kn.great, hg])
    clear hnx hg
    go_enter Try.func119, Try.ntmps119
    go_wp2_with fail
    refine (HG.out _).mono ?_
    rintro e w1 ⟨rfl, hb1⟩
    have hc1 := bcell hb1
    have hz1_0 : w.heap.size < w1.heap.size := (by have := hb1.size; first | omega | (simp at this; omega))
    go_wp2_with fail
    refine (HN.out _).mono ?_
    rintro e w2 ⟨rfl, hb2⟩
    have hc2 := bcell hb2
    have hz2_0 : w.heap.size < w2.heap.size := (by have := hb2.size; first | omega | (simp at this; omega))
    go_wp2
    go_ret
    exact ⟨ret_int HR.out.symm, by (repeat (first | with_reducible assumption | with_reducible exact Below.refl _ _ | with_reducible refine bel_alloc ?_ _ | with_reducible refine bel_drew ?_ | with_reducible refine bel_drewN ?_ _ | with_reducible refine bel_set ?_ (by first | omega | (simp; done) | (simp; omega)) _ | with_reducible refine bel_trans ?_ (by with_reducible assumption) | exact Below.refl _ _ | assumption | refine bel_alloc ?_ _ | refine bel_drew ?_ | refine bel_drewN ?_ _ | refine bel_set ?_ (by first | omega | (simp; done) | (simp; omega)) _ | refine bel_trans ?_ (by assumption)))⟩

theorem c_l2Width (k : Kn) (A : Option Addr) (cap : Nat) (w : World) (h : k.Ok) : Calls Try.prog 117 #[.agg #[.int .i64 k.o, .int .i64 k.l, .int .i64 k.m, .slice A k.ps.length cap, .int .i64 k.base, .int .i64 k.last]] w fun e w' => e = .returned (.int .i64 k.width) ∧ Below w.heap.size w w' := by
  have hp := set_bd h.set
  obtain ⟨_, ⟨hl1, hl2⟩, hm1, hm2⟩ := setOk_iff.1 h.set
  have hlen := h.len
  have HS := hid ((Blk.new w 28 #[.int .i64 k.o, .int .i64 k.l, .int .i64 k.m, .slice A k.ps.length cap, .int .i64 k.base, .int .i64 k.last]).kat.held (bel_alloc (Below.refl _ w) (.cells #[.int .i64 k.o, .int .i64 k.l, .int .i64 k.m, .slice A k.ps.length cap, .int .i64 k.base, .int .i64 k.last] 28)))
  have hgb := h.great_bd
  have hcb := h.cbd
  have HG := hid (fun (v : World) => c_l2Greatest k A cap v h)
  have HD := hid (fun (v : World) => c_l1Needed k.great v (by omega) (by omega))
  have ew : IntKind.i64.wrap (k.l + 1) = k.l + 1 := IntWalk.i64_in _ (by omega)
  have HR := hid (show k.width = max (k.l + 1) (nd k.great.toNat : Int) from rfl)
  generalize k.great = gr at HG HD HR
  clear hgb hcb
  go_enter Try.func117, Try.ntmps117
  go_wp2_with fail
  have hS := HS.out
  refine wp_region_noPanic ?_
  refine wp_region_held_drew (S := (fun v => v.cell? ⟨w.heap.size, 0, none⟩ = some (.int .i64 k.o) ∧ v.cell? ⟨w.heap.size, 1, none⟩ = some (.int .i64 k.l) ∧ v.cell? ⟨w.heap.size, 2, none⟩ = some (.int .i64 k.m) ∧ v.cell? ⟨w.heap.size, 3, none⟩ = some (.slice A k.ps.length cap) ∧ v.cell? ⟨w.heap.size, 4, none⟩ = some (.int .i64 k.base) ∧ v.cell? ⟨w.heap.size, 5, none⟩ = some (.int .i64 k.last) ∧ Below w.heap.size w v)) (by kernel_rfl) (s6_drew hS) (fun hHeld => ?_)
  refine wpAnyH_take (i := 0) (oi := ?or22_0) (v := ?vr22_0) ?ir22_0 (by kernel_rfl) (by kernel_rfl) (by kernel_rfl) (fun _ _ _ h => h) ?yr22_0 (by assumption) ?wr22_0
  case ir22_0 => (simp only [List.getElem?_toArray, List.getElem?_cons_zero]; rfl)
  case yr22_0 => exact Or.inl ⟨by rfl, by intro v hSw; (try dsimp only at hSw); go_simp; try with_reducible rfl⟩
  try simp only [Act.put, List.setIfInBounds_toArray, List.set_cons_zero, List.set_cons_succ]
  refine wpAnyH_take (i := 1) (oi := ?or22_1) (v := ?vr22_1) ?ir22_1 (by kernel_rfl) (by kernel_rfl) (by kernel_rfl) (fun _ _ _ h => h) ?yr22_1 (by assumption) ?wr22_1
  case ir22_1 => (simp only [List.getElem?_toArray, List.getElem?_cons_succ, List.getElem?_cons_zero]; rfl)
  case yr22_1 => exact Or.inl ⟨by rfl, by intro v hSw; (try dsimp only at hSw); go_simp; try with_reducible rfl⟩
  try simp only [Act.put, List.setIfInBounds_toArray, List.set_cons_zero, List.set_cons_succ]
  refine wpAnyH_take (i := 2) (oi := ?or22_2) (v := ?vr22_2) ?ir22_2 (by kernel_rfl) (by kernel_rfl) (by kernel_rfl) (fun _ _ _ h => h) ?yr22_2 (by assumption) ?wr22_2
  case ir22_2 => (simp only [List.getElem?_toArray, List.getElem?_cons_succ, List.getElem?_cons_zero]; rfl)
  case yr22_2 => exact Or.inl ⟨by rfl, by intro v hSw; (try dsimp only at hSw); go_simp; try with_reducible rfl⟩
  try simp only [Act.put, List.setIfInBounds_toArray, List.set_cons_zero, List.set_cons_succ]
  refine wpAnyH_take (i := 3) (oi := ?or22_3) (v := ?vr22_3) ?ir22_3 (by kernel_rfl) (by kernel_rfl) (by kernel_rfl) (fun _ _ _ h => h) ?yr22_3 (by assumption) ?wr22_3
  case ir22_3 => (simp only [List.getElem?_toArray, List.getElem?_cons_succ, List.getElem?_cons_zero]; rfl)
  case yr22_3 => exact Or.inl ⟨by rfl, by intro v hSw; (try dsimp only at hSw); go_simp; try with_reducible rfl⟩
  try simp only [Act.put, List.setIfInBounds_toArray, List.set_cons_zero, List.set_cons_succ]
  refine wpAnyH_take (i := 4) (oi := ?or22_4) (v := ?vr22_4) ?ir22_4 (by kernel_rfl) (by kernel_rfl) (by kernel_rfl) (fun _ _ _ h => h) ?yr22_4 (by assumption) ?wr22_4
  case ir22_4 => (simp only [List.getElem?_toArray, List.getElem?_cons_succ, List.getElem?_cons_zero]; rfl)
  case yr22_4 => exact Or.inl ⟨by rfl, by intro v hSw; (try dsimp only at hSw); go_simp; try with_reducible rfl⟩
  try simp only [Act.put, List.setIfInBounds_toArray, List.set_cons_zero, List.set_cons_succ]
  refine wpAnyH_ready (rs := [5]) (by kernel_rfl) (by simp) ?_
  refine AllReadyH.cons (o := ?or22_5) ?ir22_5 (fun K hK => ?sr22_5) AllReadyH.nil
  case ir22_5 => (simp only [List.getElem?_toArray, List.getElem?_cons_succ, List.getElem?_cons_zero]; rfl)
  (first | (go_simp; (first | (go_at_call 119; refine (HG.out _).mono ?_; rintro e w1 ⟨rfl, hb1⟩) | (go_at_call 180; refine (HD.out _).mono ?_; rintro e w1 ⟨rfl, rfl⟩) | skip)))
  refine hK.out _ _ ?kr22_5 (fun hHeld => ?_)
  case kr22_5 => (try dsimp only); (first | with_reducible assumption | exact s6_bel (by assumption) (by assumption) | assumption | exact s6_alloc (by assumption) _)
  clear hK K
  try simp only [Act.put, List.setIfInBounds_toArray, List.set_cons_zero, List.set_cons_succ]
  refine wpAnyH_ready (rs := [6]) (by kernel_rfl) (by simp) ?_
  refine AllReadyH.cons (o := ?or22_6) ?ir22_6 (fun K hK => ?sr22_6) AllReadyH.nil
  case ir22_6 => (simp only [List.getElem?_toArray, List.getElem?_cons_succ, List.getElem?_cons_zero]; rfl)
  (first | (go_simp; (first | (go_at_call 119; refine (HG.out _).mono ?_; rintro e w1 ⟨rfl, hb1⟩) | (go_at_call 180; refine (HD.out _).mono ?_; rintro e w1 ⟨rfl, rfl⟩) | skip)))
  refine hK.out _ _ ?kr22_6 (fun hHeld => ?_)
  case kr22_6 => (try dsimp only); (first | with_reducible assumption | exact s6_bel (by assumption) (by assumption) | assumption | exact s6_alloc (by assumption) _)
  clear hK K
  try simp only [Act.put, List.setIfInBounds_toArray, List.set_cons_zero, List.set_cons_succ]
  refine wpAnyH_take (i := 7) (oi := ?or22_7) (v := ?vr22_7) ?ir22_7 (by kernel_rfl) (by kernel_rfl) (by kernel_rfl) (fun _ _ _ h => h) ?yr22_7 (by assumption) ?wr22_7
  case ir22_7 => (simp only [List.getElem?_toArray, List.getElem?_cons_succ, List.getElem?_cons_zero]; rfl)
  case yr22_7 => exact Or.inl ⟨by rfl, by intro v hSw; (try dsimp only at hSw); go_simp; try with_reducible rfl⟩
  try simp only [Act.put, List.setIfInBounds_toArray, List.set_cons_zero, List.set_cons_succ]
  refine wpAnyH_take (i := 8) (oi := ?or22_8) (v := ?vr22_8) ?ir22_8 (by kernel_rfl) (by kernel_rfl) (by kernel_rfl) (fun _ _ _ h => h) ?yr22_8 (by assumption) ?wr22_8
  case ir22_8 => (simp only [List.getElem?_toArray, List.getElem?_cons_succ, List.getElem?_cons_zero]; rfl)
  case yr22_8 => exact Or.inl ⟨by rfl, by intro v hSw; (try dsimp only at hSw); go_simp; try with_reducible rfl⟩
  try simp only [Act.put, List.setIfInBounds_toArray, List.set_cons_zero, List.set_cons_succ]
  refine wpAnyH_done (by kernel_rfl) ?_ _
  refine NoPanic.normal ?_
  go_wp2
  go_ret
  exact ⟨ret_int (by rw [HR.out]), by (repeat (first | with_reducible assumption | with_reducible exact Below.refl _ _ | with_reducible refine bel_alloc ?_ _ | with_reducible refine bel_drew ?_ | with_reducible refine bel_drewN ?_ _ | with_reducible refine bel_set ?_ (by first | omega | (simp; done) | (simp; omega)) _ | with_reducible refine bel_trans ?_ (by with_reducible assumption) | exact Below.refl _ _ | assumption | refine bel_alloc ?_ _ | refine bel_drew ?_ | refine bel_drewN ?_ _ | refine bel_set ?_ (by first | omega | (simp; done) | (simp; omega)) _ | refine bel_trans ?_ (by assumption)))⟩

theorem c_firstWord (b : Nat) (k : Kn) (A : Option Addr) (cap : Nat) (w : World) (h : k.Ok) (hk : KAt w b k (.slice A k.ps.length cap)) : Calls Try.prog 170 #[.pointer (some ⟨b, 0, none⟩)] w fun e w' => e = .returned (.int .i64 (pow2 k.l + 2)) ∧ Below w.heap.size w w' := by
  have hp := set_bd h.set
  obtain ⟨_, ⟨hl1, hl2⟩, hm1, hm2⟩ := setOk_iff.1 h.set
  have hlen := h.len
  have HS := hid (hk.held (Below.refl _ w))
  obtain ⟨hb, q0, q1, q2, q3, q4, q5⟩ := hk
  have HE := hid (fun (v : World) => c_EndCode_yes k.o k.l k.m v h.set)
  clear HS
  go_enter Try.func170, Try.ntmps170
  go_wp2_with fail
  refine (HE.out _).mono ?_
  rintro e w1 ⟨rfl, hb1⟩
  have hc1 := bcell hb1
  go_wp2
  go_ret
  exact ⟨ret_int (by omega), by (repeat (first | with_reducible assumption | with_reducible exact Below.refl _ _ | with_reducible refine bel_alloc ?_ _ | with_reducible refine bel_drew ?_ | with_reducible refine bel_drewN ?_ _ | with_reducible refine bel_set ?_ (by first | omega | (simp; done) | (simp; omega)) _ | with_reducible refine bel_trans ?_ (by with_reducible assumption) | exact Below.refl _ _ | assumption | refine bel_alloc ?_ _ | refine bel_drew ?_ | refine bel_drewN ?_ _ | refine bel_set ?_ (by first | omega | (simp; done) | (simp; omega)) _ | refine bel_trans ?_ (by assumption)))⟩

theorem c_nextWord (b : Nat) (k : Kn) (A : Option Addr) (cap : Nat) (w : World) (h : k.Ok) (hk : KAt w b k (.slice A k.ps.length cap)) : Calls Try.prog 104 #[.pointer (some ⟨b, 0, none⟩)] w fun e w' => e = .returned (.int .i64 k.next) ∧ Below w.heap.size w w' := by
  have HF := hid (fun (v : World) (hv : KAt v b k (.slice A k.ps.length cap)) => c_firstWord b k A cap v h hv)
  have hp := set_bd h.set
  obtain ⟨_, ⟨hl1, hl2⟩, hm1, hm2⟩ := setOk_iff.1 h.set
  have hlen := h.len
  have HS := hid (hk.held (Below.refl _ w))
  obtain ⟨hb, q0, q1, q2, q3, q4, q5⟩ := hk
  have ew : IntKind.i64.wrap (pow2 k.l + 2 + (k.ps.length : Int)) = pow2 k.l + 2 + (k.ps.length : Int) := IntWalk.i64_in _ (by omega)
  have hb0 := Below.refl w.heap.size w
  go_enter Try.func104, Try.ntmps104
  go_wp2_with fail
  have hS := HS.out
  refine wp_region_noPanic ?_
  refine wp_region_held_drew (S := (fun v => v.cell? ⟨b, 0, none⟩ = some (.int .i64 k.o) ∧ v.cell? ⟨b, 1, none⟩ = some (.int .i64 k.l) ∧ v.cell? ⟨b, 2, none⟩ = some (.int .i64 k.m) ∧ v.cell? ⟨b, 3, none⟩ = some (.slice A k.ps.length cap) ∧ v.cell? ⟨b, 4, none⟩ = some (.int .i64 k.base) ∧ v.cell? ⟨b, 5, none⟩ = some (.int .i64 k.last) ∧ Below w.heap.size w v)) (by kernel_rfl) (s6_drew hS) (fun hHeld => ?_)
  refine wpAnyH_take (i := 0) (oi := ?or23_0) (v := ?vr23_0) ?ir23_0 (by kernel_rfl) (by kernel_rfl) (by kernel_rfl) (fun _ _ _ h => h) ?yr23_0 (by assumption) ?wr23_0
  case ir23_0 => (simp only [List.getElem?_toArray, List.getElem?_cons_zero]; rfl)
  case yr23_0 => exact Or.inl ⟨by rfl, by intro v hSw; (try dsimp only at hSw); go_simp; try with_reducible rfl⟩
  try simp only [Act.put, List.setIfInBounds_toArray, List.set_cons_zero, List.set_cons_succ]
  refine wpAnyH_take (i := 2) (oi := ?or23_2) (v := ?vr23_2) ?ir23_2 (by kernel_rfl) (by kernel_rfl) (by kernel_rfl) (fun _ _ _ h => h) ?yr23_2 (by assumption) ?wr23_2
  case ir23_2 => (simp only [List.getElem?_toArray, List.getElem?_cons_succ, List.getElem?_cons_zero]; rfl)
  case yr23_2 => exact Or.inl ⟨by rfl, by intro v hSw; (try dsimp only at hSw); go_simp; try with_reducible rfl⟩
  try simp only [Act.put, List.setIfInBounds_toArray, List.set_cons_zero, List.set_cons_succ]
  refine wpAnyH_take (i := 3) (oi := ?or23_3) (v := ?vr23_3) ?ir23_3 (by kernel_rfl) (by kernel_rfl) (by kernel_rfl) (fun _ _ _ h => h) ?yr23_3 (by assumption) ?wr23_3
  case ir23_3 => (simp only [List.getElem?_toArray, List.getElem?_cons_succ, List.getElem?_cons_zero]; rfl)
  case yr23_3 => exact Or.inl ⟨by rfl, by intro v hSw; (try dsimp only at hSw); go_simp; try with_reducible rfl⟩
  try simp only [Act.put, List.setIfInBounds_toArray, List.set_cons_zero, List.set_cons_succ]
  refine wpAnyH_take (i := 4) (oi := ?or23_4) (v := ?vr23_4) ?ir23_4 (by kernel_rfl) (by kernel_rfl) (by kernel_rfl) (fun _ _ _ h => h) ?yr23_4 (by assumption) ?wr23_4
  case ir23_4 => (simp only [List.getElem?_toArray, List.getElem?_cons_succ, List.getElem?_cons_zero]; rfl)
  case yr23_4 => exact Or.inl ⟨by rfl, by intro v hSw; (try dsimp only at hSw); go_simp; try with_reducible rfl⟩
  try simp only [Act.put, List.setIfInBounds_toArray, List.set_cons_zero, List.set_cons_succ]
  refine wpAnyH_take (i := 5) (oi := ?or23_5) (v := ?vr23_5) ?ir23_5 (by kernel_rfl) (by kernel_rfl) (by kernel_rfl) (fun _ _ _ h => h) ?yr23_5 (by assumption) ?wr23_5
  case ir23_5 => (simp only [List.getElem?_toArray, List.getElem?_cons_succ, List.getElem?_cons_zero]; rfl)
  case yr23_5 => exact Or.inl ⟨by rfl, by intro v hSw; (try dsimp only at hSw); go_simp; try with_reducible rfl⟩
  try simp only [Act.put, List.setIfInBounds_toArray, List.set_cons_zero, List.set_cons_succ]
  refine wpAnyH_take (i := 6) (oi := ?or23_6) (v := ?vr23_6) ?ir23_6 (by kernel_rfl) (by kernel_rfl) (by kernel_rfl) (fun _ _ _ h => h) ?yr23_6 (by assumption) ?wr23_6
  case ir23_6 => (simp only [List.getElem?_toArray, List.getElem?_cons_succ, List.getElem?_cons_zero]; rfl)
  case yr23_6 => exact Or.inl ⟨by rfl, by intro v hSw; (try dsimp only at hSw); go_simp; try with_reducible rfl⟩
  try simp only [Act.put, List.setIfInBounds_toArray, List.set_cons_zero, List.set_cons_succ]
  refine wpAnyH_ready (rs := [1]) (by kernel_rfl) (by simp) ?_
  refine AllReadyH.cons (o := ?or23_1) ?ir23_1 (fun K hK => ?sr23_1) AllReadyH.nil
  case ir23_1 => (simp only [List.getElem?_toArray, List.getElem?_cons_succ, List.getElem?_cons_zero]; rfl)
  (first | (go_simp; (first | (go_at_call 170; refine (HF.out _ (kat6 hHeld).1).mono ?_; rintro e w1 ⟨rfl, hb1⟩) | skip)))
  refine hK.out _ _ ?kr23_1 (fun hHeld => ?_)
  case kr23_1 => (try dsimp only); (first | with_reducible assumption | exact s6_bel (by assumption) (by assumption) | assumption | exact s6_alloc (by assumption) _)
  clear hK K
  try simp only [Act.put, List.setIfInBounds_toArray, List.set_cons_zero, List.set_cons_succ]
  refine wpAnyH_take (i := 7) (oi := ?or23_7) (v := ?vr23_7) ?ir23_7 (by kernel_rfl) (by kernel_rfl) (by kernel_rfl) (fun _ _ _ h => h) ?yr23_7 (by assumption) ?wr23_7
  case ir23_7 => (simp only [List.getElem?_toArray, List.getElem?_cons_succ, List.getElem?_cons_zero]; rfl)
  case yr23_7 => exact Or.inl ⟨by rfl, by intro v hSw; (try dsimp only at hSw); go_simp; try with_reducible rfl⟩
  try simp only [Act.put, List.setIfInBounds_toArray, List.set_cons_zero, List.set_cons_succ]
  refine wpAnyH_take (i := 8) (oi := ?or23_8) (v := ?vr23_8) ?ir23_8 (by kernel_rfl) (by kernel_rfl) (by kernel_rfl) (fun _ _ _ h => h) ?yr23_8 (by assumption) ?wr23_8
  case ir23_8 => (simp only [List.getElem?_toArray, List.getElem?_cons_succ, List.getElem?_cons_zero]; rfl)
  case yr23_8 => exact Or.inl ⟨by rfl, by intro v hSw; (try dsimp only at hSw); go_simp; try with_reducible rfl⟩
  try simp only [Act.put, List.setIfInBounds_toArray, List.set_cons_zero, List.set_cons_succ]
  refine wpAnyH_done (by kernel_rfl) ?_ _
  refine NoPanic.normal ?_
  go_wp2
  go_ret
  exact ⟨rfl, by (repeat (first | with_reducible assumption | with_reducible exact Below.refl _ _ | with_reducible refine bel_alloc ?_ _ | with_reducible refine bel_drew ?_ | with_reducible refine bel_drewN ?_ _ | with_reducible refine bel_set ?_ (by first | omega | (simp; done) | (simp; omega)) _ | with_reducible refine bel_trans ?_ (by with_reducible assumption) | exact Below.refl _ _ | assumption | refine bel_alloc ?_ _ | refine bel_drew ?_ | refine bel_drewN ?_ _ | refine bel_set ?_ (by first | omega | (simp; done) | (simp; omega)) _ | refine bel_trans ?_ (by assumption)))⟩

theorem c_full (b : Nat) (k : Kn) (A : Option Addr) (cap : Nat) (w : World) (h : k.Ok) (hk : KAt w b k (.slice A k.ps.length cap)) : Calls Try.prog 171 #[.pointer (some ⟨b, 0, none⟩)] w fun e w' => e = .returned (.bool (decide (pow2 k.m - 1 < k.next))) ∧ Below w.heap.size w w' := by
  have HN := hid (fun (v : World) (hv : KAt v b k (.slice A k.ps.length cap)) => c_nextWord b k A cap v h hv)
  have HC := hid (fun (v : World) => c_LastCode_yes k.o k.l k.m v h.set)
  have hp := set_bd h.set
  obtain ⟨_, ⟨hl1, hl2⟩, hm1, hm2⟩ := setOk_iff.1 h.set
  have hlen := h.len
  have HS := hid (hk.held (Below.refl _ w))
  have HK := hid hk
  obtain ⟨hb, q0, q1, q2, q3, q4, q5⟩ := hk
  have hb0 := Below.refl w.heap.size w
  go_enter Try.func171, Try.ntmps171
  go_wp2_with fail
  have hS := HS.out
  refine wp_region_noPanic ?_
  refine wp_region_held_drew (S := (fun v => v.cell? ⟨b, 0, none⟩ = some (.int .i64 k.o) ∧ v.cell? ⟨b, 1, none⟩ = some (.int .i64 k.l) ∧ v.cell? ⟨b, 2, none⟩ = some (.int .i64 k.m) ∧ v.cell? ⟨b, 3, none⟩ = some (.slice A k.ps.length cap) ∧ v.cell? ⟨b, 4, none⟩ = some (.int .i64 k.base) ∧ v.cell? ⟨b, 5, none⟩ = some (.int .i64 k.last) ∧ Below w.heap.size w v)) (by kernel_rfl) (s6_drew hS) (fun hHeld => ?_)
  refine wpAnyH_take (i := 0) (oi := ?or24_0) (v := ?vr24_0) ?ir24_0 (by kernel_rfl) (by kernel_rfl) (by kernel_rfl) (fun _ _ _ h => h) ?yr24_0 (by assumption) ?wr24_0
  case ir24_0 => (simp only [List.getElem?_toArray, List.getElem?_cons_zero]; rfl)
  case yr24_0 => exact Or.inl ⟨by rfl, by intro v hSw; (try dsimp only at hSw); go_simp; try with_reducible rfl⟩
  try simp only [Act.put, List.setIfInBounds_toArray, List.set_cons_zero, List.set_cons_succ]
  refine wpAnyH_take (i := 2) (oi := ?or24_2) (v := ?vr24_2) ?ir24_2 (by kernel_rfl) (by kernel_rfl) (by kernel_rfl) (fun _ _ _ h => h) ?yr24_2 (by assumption) ?wr24_2
  case ir24_2 => (simp only [List.getElem?_toArray, List.getElem?_cons_succ, List.getElem?_cons_zero]; rfl)
  case yr24_2 => exact Or.inl ⟨by rfl, by intro v hSw; (try dsimp only at hSw); go_simp; try with_reducible rfl⟩
  try simp only [Act.put, List.setIfInBounds_toArray, List.set_cons_zero, List.set_cons_succ]
  refine wpAnyH_take (i := 3) (oi := ?or24_3) (v := ?vr24_3) ?ir24_3 (by kernel_rfl) (by kernel_rfl) (by kernel_rfl) (fun _ _ _ h => h) ?yr24_3 (by assumption) ?wr24_3
  case ir24_3 => (simp only [List.getElem?_toArray, List.getElem?_cons_succ, List.getElem?_cons_zero]; rfl)
  case yr24_3 => exact Or.inl ⟨by rfl, by intro v hSw; (try dsimp only at hSw); go_simp; try with_reducible rfl⟩
  try simp only [Act.put, List.setIfInBounds_toArray, List.set_cons_zero, List.set_cons_succ]
  refine wpAnyH_take (i := 4) (oi := ?or24_4) (v := ?vr24_4) ?ir24_4 (by kernel_rfl) (by kernel_rfl) (by kernel_rfl) (fun _ _ _ h => h) ?yr24_4 (by assumption) ?wr24_4
  case ir24_4 => (simp only [List.getElem?_toArray, List.getElem?_cons_succ, List.getElem?_cons_zero]; rfl)
  case yr24_4 => exact Or.inl ⟨by rfl, by intro v hSw; (try dsimp only at hSw); go_simp; try with_reducible rfl⟩
  try simp only [Act.put, List.setIfInBounds_toArray, List.set_cons_zero, List.set_cons_succ]
  refine wpAnyH_take (i := 5) (oi := ?or24_5) (v := ?vr24_5) ?ir24_5 (by kernel_rfl) (by kernel_rfl) (by kernel_rfl) (fun _ _ _ h => h) ?yr24_5 (by assumption) ?wr24_5
  case ir24_5 => (simp only [List.getElem?_toArray, List.getElem?_cons_succ, List.getElem?_cons_zero]; rfl)
  case yr24_5 => exact Or.inl ⟨by rfl, by intro v hSw; (try dsimp only at hSw); go_simp; try with_reducible rfl⟩
  try simp only [Act.put, List.setIfInBounds_toArray, List.set_cons_zero, List.set_cons_succ]
  refine wpAnyH_ready (rs := [1]) (by kernel_rfl) (by simp) ?_
  refine AllReadyH.cons (o := ?or24_1) ?ir24_1 (fun K hK => ?sr24_1) AllReadyH.nil
  case ir24_1 => (simp only [List.getElem?_toArray, List.getElem?_cons_succ, List.getElem?_cons_zero]; rfl)
  (first | (go_simp; (first | (go_at_call 104; refine (HN.out _ (kat6 hHeld).1).mono ?_; rintro e w1 ⟨rfl, hb1⟩) | (go_at_call 53; refine (HC.out _).mono ?_; rintro e w1 ⟨rfl, hb1⟩) | skip)))
  refine hK.out _ _ ?kr24_1 (fun hHeld => ?_)
  case kr24_1 => (try dsimp only); (first | with_reducible assumption | exact s6_bel (by assumption) (by assumption) | assumption | exact s6_alloc (by assumption) _)
  clear hK K
  try simp only [Act.put, List.setIfInBounds_toArray, List.set_cons_zero, List.set_cons_succ]
  refine wpAnyH_ready (rs := [6]) (by kernel_rfl) (by simp) ?_
  refine AllReadyH.cons (o := ?or24_6) ?ir24_6 (fun K hK => ?sr24_6) AllReadyH.nil
  case ir24_6 => (simp only [List.getElem?_toArray, List.getElem?_cons_succ, List.getElem?_cons_zero]; rfl)
  (first | (go_simp; (first | (go_at_call 104; refine (HN.out _ (kat6 hHeld).1).mono ?_; rintro e w1 ⟨rfl, hb1⟩) | (go_at_call 53; refine (HC.out _).mono ?_; rintro e w1 ⟨rfl, hb1⟩) | skip)))
  refine hK.out _ _ ?kr24_6 (fun hHeld => ?_)
  case kr24_6 => (try dsimp only); (first | with_reducible assumption | exact s6_bel (by assumption) (by assumption) | assumption | exact s6_alloc (by assumption) _)
  clear hK K
  try simp only [Act.put, List.setIfInBounds_toArray, List.set_cons_zero, List.set_cons_succ]
  refine wpAnyH_take (i := 7) (oi := ?or24_7) (v := ?vr24_7) ?ir24_7 (by kernel_rfl) (by kernel_rfl) (by kernel_rfl) (fun _ _ _ h => h) ?yr24_7 (by assumption) ?wr24_7
  case ir24_7 => (simp only [List.getElem?_toArray, List.getElem?_cons_succ, List.getElem?_cons_zero]; rfl)
  case yr24_7 => exact Or.inl ⟨by rfl, by intro v hSw; (try dsimp only at hSw); go_simp; try with_reducible rfl⟩
  try simp only [Act.put, List.setIfInBounds_toArray, List.set_cons_zero, List.set_cons_succ]
  refine wpAnyH_take (i := 8) (oi := ?or24_8) (v := ?vr24_8) ?ir24_8 (by kernel_rfl) (by kernel_rfl) (by kernel_rfl) (fun _ _ _ h => h) ?yr24_8 (by assumption) ?wr24_8
  case ir24_8 => (simp only [List.getElem?_toArray, List.getElem?_cons_succ, List.getElem?_cons_zero]; rfl)
  case yr24_8 => exact Or.inl ⟨by rfl, by intro v hSw; (try dsimp only at hSw); go_simp; try with_reducible rfl⟩
  try simp only [Act.put, List.setIfInBounds_toArray, List.set_cons_zero, List.set_cons_succ]
  refine wpAnyH_done (by kernel_rfl) ?_ _
  refine NoPanic.normal ?_
  all_goals
    go_wp2
    go_ret
    exact ⟨rfl, by (repeat (first | with_reducible assumption | with_reducible exact Below.refl _ _ | with_reducible refine bel_alloc ?_ _ | with_reducible refine bel_drew ?_ | with_reducible refine bel_drewN ?_ _ | with_reducible refine bel_set ?_ (by first | omega | (simp; done) | (simp; omega)) _ | with_reducible refine bel_trans ?_ (by with_reducible assumption) | exact Below.refl _ _ | assumption | refine bel_alloc ?_ _ | refine bel_drew ?_ | refine bel_drewN ?_ _ | refine bel_set ?_ (by first | omega | (simp; done) | (simp; omega)) _ | refine bel_trans ?_ (by assumption)))⟩

theorem c_grows (b : Nat) (k : Kn) (A : Option Addr) (cap : Nat) (w : World) (h : k.Ok) (hk : KAt w b k (.slice A k.ps.length cap)) : Calls Try.prog 105 #[.pointer (some ⟨b, 0, none⟩)] w fun e w' => e = .returned (.bool k.grows) ∧ Below w.heap.size w w' := by
  have HF := hid (fun (v : World) (hv : KAt v b k (.slice A k.ps.length cap)) => c_full b k A cap v h hv)
  have hlb := h.lastBd
  have hp := set_bd h.set
  obtain ⟨_, ⟨hl1, hl2⟩, hm1, hm2⟩ := setOk_iff.1 h.set
  have hlen := h.len
  have HS := hid (hk.held (Below.refl _ w))
  have HK := hid hk
  obtain ⟨hb, q0, q1, q2, q3, q4, q5⟩ := hk
  by_cases h1 : k.last = -1
  · have HG := hid (show k.grows = false by simp [Kn.grows]; omega)
    have h2 : (k.last != -1) = false := by simp [h1]
    clear h1
    go_enter Try.func105, Try.ntmps105
    go_wp2
    go_ret
    exact ⟨ret_bool HG.out.symm, by (repeat (first | with_reducible assumption | with_reducible exact Below.refl _ _ | with_reducible refine bel_alloc ?_ _ | with_reducible refine bel_drew ?_ | with_reducible refine bel_drewN ?_ _ | with_reducible refine bel_set ?_ (by first | omega | (simp; done) | (simp; omega)) _ | with_reducible refine bel_trans ?_ (by with_reducible assumption) | exact Below.refl _ _ | assumption | refine bel_alloc ?_ _ | refine bel_drew ?_ | refine bel_drewN ?_ _ | refine bel_set ?_ (by first | omega | (simp; done) | (simp; omega)) _ | refine bel_trans ?_ (by assumption)))⟩
  · have h2 : (k.last != -1) = true := by simp [h1]
    have HG := hid (show k.grows = !(decide (pow2 k.m - 1 < k.next)) by unfold Kn.grows Kn.lc; rw [Bool.eq_iff_iff]; simp only [decide_eq_true_eq, Bool.not_eq_true', decide_eq_false_iff_not]; omega)
    clear h1
    go_enter Try.func105, Try.ntmps105
    go_wp2_with fail
    refine (HF.out _ HK.out).mono ?_
    rintro e w1 ⟨rfl, hb1⟩
    go_wp2
    go_ret
    exact ⟨ret_bool HG.out.symm, by (repeat (first | with_reducible assumption | with_reducible exact Below.refl _ _ | with_reducible refine bel_alloc ?_ _ | with_reducible refine bel_drew ?_ | with_reducible refine bel_drewN ?_ _ | with_reducible refine bel_set ?_ (by first | omega | (simp; done) | (simp; omega)) _ | with_reducible refine bel_trans ?_ (by with_reducible assumption) | exact Below.refl _ _ | assumption | refine bel_alloc ?_ _ | refine bel_drew ?_ | refine bel_drewN ?_ _ | refine bel_set ?_ (by first | omega | (simp; done) | (simp; omega)) _ | refine bel_trans ?_ (by assumption)))⟩

theorem c_greatest (b : Nat) (k : Kn) (A : Option Addr) (cap : Nat) (w : World) (h : k.Ok) (hk : KAt w b k (.slice A k.ps.length cap)) : Calls Try.prog 107 #[.pointer (some ⟨b, 0, none⟩)] w fun e w' => e = .returned (.int .i64 k.great) ∧ Below w.heap.size w w' := by
  have HG := hid (c_grows b k A cap w h hk)
  have HN := hid (fun (v : World) (hv : KAt v b k (.slice A k.ps.length cap)) => c_nextWord b k A cap v h hv)
  have hnb := next_bd h
  have HK := hid hk
  have hb := hk.1
  generalize hnx : k.next = nx at hnb
  rw [hnx] at HN
  cases hg : k.grows with
  | true =>
    rw [hg] at HG
    have HR := hid (show k.great = nx by rw [← hnx]; simp [Kn.great, hg])
    clear hnx hg hk
    go_enter Try.func107, Try.ntmps107
    go_wp2_with fail
    refine HG.out.mono ?_
    rintro e w1 ⟨rfl, hb1⟩
    go_wp2_with fail
    refine (HN.out _ (HK.out.on hb1 hb)).mono ?_
    rintro e w2 ⟨rfl, hb2⟩
    go_wp2
    go_ret
    exact ⟨ret_int HR.out.symm, by (repeat (first | with_reducible assumption | with_reducible exact Below.refl _ _ | with_reducible refine bel_alloc ?_ _ | with_reducible refine bel_drew ?_ | with_reducible refine bel_drewN ?_ _ | with_reducible refine bel_set ?_ (by first | omega | (simp; done) | (simp; omega)) _ | with_reducible refine bel_trans ?_ (by with_reducible assumption) | exact Below.refl _ _ | assumption | refine bel_alloc ?_ _ | refine bel_drew ?_ | refine bel_drewN ?_ _ | refine bel_set ?_ (by first | omega | (simp; done) | (simp; omega)) _ | refine bel_trans ?_ (by assumption)))⟩
  | false =>
    rw [hg] at HG
    have HR := hid (show k.great = nx - 1 by rw [← hnx]; simp [Kn.great, hg])
    clear hnx hg hk
    go_enter Try.func107, Try.ntmps107
    go_wp2_with fail
    refine HG.out.mono ?_
    rintro e w1 ⟨rfl, hb1⟩
    go_wp2_with fail
    refine (HN.out _ (HK.out.on hb1 hb)).mono ?_
    rintro e w2 ⟨rfl, hb2⟩
    go_wp2
    go_ret
    exact ⟨ret_int HR.out.symm, by (repeat (first | with_reducible assumption | with_reducible exact Below.refl _ _ | with_reducible refine bel_alloc ?_ _ | with_reducible refine bel_drew ?_ | with_reducible refine bel_drewN ?_ _ | with_reducible refine bel_set ?_ (by first | omega | (simp; done) | (simp; omega)) _ | with_reducible refine bel_trans ?_ (by with_reducible assumption) | exact Below.refl _ _ | assumption | refine bel_alloc ?_ _ | refine bel_drew ?_ | refine bel_drewN ?_ _ | refine bel_set ?_ (by first | omega | (simp; done) | (simp; omega)) _ | refine bel_trans ?_ (by assumption)))⟩

theorem c_width (b : Nat) (k : Kn) (A : Option Addr) (cap : Nat) (w : World) (h : k.Ok) (hk : KAt w b k (.slice A k.ps.length cap)) : Calls Try.prog 106 #[.pointer (some ⟨b, 0, none⟩)] w fun e w' => e = .returned (.int .i64 k.width) ∧ Below w.heap.size w w' := by
  have hgb := h.great_bd
  have hcb := h.cbd
  have HG := hid (fun (v : World) (hv : KAt v b k (.slice A k.ps.length cap)) => c_greatest b k A cap v h hv)
  have HD := hid (fun (v : World) => c_BitsNeeded k.great v (by omega))
  have hp := set_bd h.set
  obtain ⟨_, ⟨hl1, hl2⟩, hm1, hm2⟩ := setOk_iff.1 h.set
  have hlen := h.len
  have HS := hid (hk.held (Below.refl _ w))
  have HK := hid hk
  obtain ⟨hb, q0, q1, q2, q3, q4, q5⟩ := hk
  have ew : IntKind.i64.wrap (k.l + 1) = k.l + 1 := IntWalk.i64_in _ (by omega)
  have HR := hid (show k.width = max (k.l + 1) (bitsNeeded k.great) by unfold Kn.width bitsNeeded; rw [if_neg (by omega)])
  have hb0 := Below.refl w.heap.size w
  generalize bitsNeeded k.great = nb at HD HR
  generalize k.great = gr at HG HD HR
  clear hgb hcb
  go_enter Try.func106, Try.ntmps106
  go_wp2_with fail
  have hS := HS.out
  refine wp_region_noPanic ?_
  refine wp_region_held_drew (S := (fun v => v.cell? ⟨b, 0, none⟩ = some (.int .i64 k.o) ∧ v.cell? ⟨b, 1, none⟩ = some (.int .i64 k.l) ∧ v.cell? ⟨b, 2, none⟩ = some (.int .i64 k.m) ∧ v.cell? ⟨b, 3, none⟩ = some (.slice A k.ps.length cap) ∧ v.cell? ⟨b, 4, none⟩ = some (.int .i64 k.base) ∧ v.cell? ⟨b, 5, none⟩ = some (.int .i64 k.last) ∧ Below w.heap.size w v)) (by kernel_rfl) (s6_drew hS) (fun hHeld => ?_)
  refine wpAnyH_take (i := 0) (oi := ?or25_0) (v := ?vr25_0) ?ir25_0 (by kernel_rfl) (by kernel_rfl) (by kernel_rfl) (fun _ _ _ h => h) ?yr25_0 (by assumption) ?wr25_0
  case ir25_0 => (simp only [List.getElem?_toArray, List.getElem?_cons_zero]; rfl)
  case yr25_0 => exact Or.inl ⟨by rfl, by intro v hSw; (try dsimp only at hSw); go_simp; try with_reducible rfl⟩
  try simp only [Act.put, List.setIfInBounds_toArray, List.set_cons_zero, List.set_cons_succ]
  refine wpAnyH_take (i := 3) (oi := ?or25_3) (v := ?vr25_3) ?ir25_3 (by kernel_rfl) (by kernel_rfl) (by kernel_rfl) (fun _ _ _ h => h) ?yr25_3 (by assumption) ?wr25_3
  case ir25_3 => (simp only [List.getElem?_toArray, List.getElem?_cons_succ, List.getElem?_cons_zero]; rfl)
  case yr25_3 => exact Or.inl ⟨by rfl, by intro v hSw; (try dsimp only at hSw); go_simp; try with_reducible rfl⟩
  try simp only [Act.put, List.setIfInBounds_toArray, List.set_cons_zero, List.set_cons_succ]
  refine wpAnyH_take (i := 4) (oi := ?or25_4) (v := ?vr25_4) ?ir25_4 (by kernel_rfl) (by kernel_rfl) (by kernel_rfl) (fun _ _ _ h => h) ?yr25_4 (by assumption) ?wr25_4
  case ir25_4 => (simp only [List.getElem?_toArray, List.getElem?_cons_succ, List.getElem?_cons_zero]; rfl)
  case yr25_4 => exact Or.inl ⟨by rfl, by intro v hSw; (try dsimp only at hSw); go_simp; try with_reducible rfl⟩
  try simp only [Act.put, List.setIfInBounds_toArray, List.set_cons_zero, List.set_cons_succ]
  refine wpAnyH_take (i := 5) (oi := ?or25_5) (v := ?vr25_5) ?ir25_5 (by kernel_rfl) (by kernel_rfl) (by kernel_rfl) (fun _ _ _ h => h) ?yr25_5 (by assumption) ?wr25_5
  case ir25_5 => (simp only [List.getElem?_toArray, List.getElem?_cons_succ, List.getElem?_cons_zero]; rfl)
  case yr25_5 => exact Or.inl ⟨by rfl, by intro v hSw; (try dsimp only at hSw); go_simp; try with_reducible rfl⟩
  try simp only [Act.put, List.setIfInBounds_toArray, List.set_cons_zero, List.set_cons_succ]
  refine wpAnyH_take (i := 6) (oi := ?or25_6) (v := ?vr25_6) ?ir25_6 (by kernel_rfl) (by kernel_rfl) (by kernel_rfl) (fun _ _ _ h => h) ?yr25_6 (by assumption) ?wr25_6
  case ir25_6 => (simp only [List.getElem?_toArray, List.getElem?_cons_succ, List.getElem?_cons_zero]; rfl)
  case yr25_6 => exact Or.inl ⟨by rfl, by intro v hSw; (try dsimp only at hSw); go_simp; try with_reducible rfl⟩
  try simp only [Act.put, List.setIfInBounds_toArray, List.set_cons_zero, List.set_cons_succ]
  refine wpAnyH_take (i := 7) (oi := ?or25_7) (v := ?vr25_7) ?ir25_7 (by kernel_rfl) (by kernel_rfl) (by kernel_rfl) (fun _ _ _ h => h) ?yr25_7 (by assumption) ?wr25_7
  case ir25_7 => (simp only [List.getElem?_toArray, List.getElem?_cons_succ, List.getElem?_cons_zero]; rfl)
  case yr25_7 => exact Or.inl ⟨by rfl, by intro v hSw; (try dsimp only at hSw); go_simp; try with_reducible rfl⟩
  try simp only [Act.put, List.setIfInBounds_toArray, List.set_cons_zero, List.set_cons_succ]
  refine wpAnyH_take (i := 8) (oi := ?or25_8) (v := ?vr25_8) ?ir25_8 (by kernel_rfl) (by kernel_rfl) (by kernel_rfl) (fun _ _ _ h => h) ?yr25_8 (by assumption) ?wr25_8
  case ir25_8 => (simp only [List.getElem?_toArray, List.getElem?_cons_succ, List.getElem?_cons_zero]; rfl)
  case yr25_8 => exact Or.inl ⟨by rfl, by intro v hSw; (try dsimp only at hSw); go_simp; try with_reducible rfl⟩
  try simp only [Act.put, List.setIfInBounds_toArray, List.set_cons_zero, List.set_cons_succ]
  refine wpAnyH_ready (rs := [1]) (by kernel_rfl) (by simp) ?_
  refine AllReadyH.cons (o := ?or25_1) ?ir25_1 (fun K hK => ?sr25_1) AllReadyH.nil
  case ir25_1 => (simp only [List.getElem?_toArray, List.getElem?_cons_succ, List.getElem?_cons_zero]; rfl)
  (first | (go_simp; (first | (go_at_call 107; refine (HG.out _ (kat6 hHeld).1).mono ?_; rintro e w1 ⟨rfl, hb1⟩) | (go_at_call 49; refine (HD.out _).mono ?_; rintro e w1 ⟨rfl, rfl⟩) | skip)))
  refine hK.out _ _ ?kr25_1 (fun hHeld => ?_)
  case kr25_1 => (try dsimp only); (first | with_reducible assumption | exact s6_bel (by assumption) (by assumption) | assumption | exact s6_alloc (by assumption) _)
  clear hK K
  try simp only [Act.put, List.setIfInBounds_toArray, List.set_cons_zero, List.set_cons_succ]
  refine wpAnyH_ready (rs := [2]) (by kernel_rfl) (by simp) ?_
  refine AllReadyH.cons (o := ?or25_2) ?ir25_2 (fun K hK => ?sr25_2) AllReadyH.nil
  case ir25_2 => (simp only [List.getElem?_toArray, List.getElem?_cons_succ, List.getElem?_cons_zero]; rfl)
  (first | (go_simp; (first | (go_at_call 107; refine (HG.out _ (kat6 hHeld).1).mono ?_; rintro e w1 ⟨rfl, hb1⟩) | (go_at_call 49; refine (HD.out _).mono ?_; rintro e w1 ⟨rfl, rfl⟩) | skip)))
  refine hK.out _ _ ?kr25_2 (fun hHeld => ?_)
  case kr25_2 => (try dsimp only); (first | with_reducible assumption | exact s6_bel (by assumption) (by assumption) | assumption | exact s6_alloc (by assumption) _)
  clear hK K
  try simp only [Act.put, List.setIfInBounds_toArray, List.set_cons_zero, List.set_cons_succ]
  refine wpAnyH_take (i := 9) (oi := ?or25_9) (v := ?vr25_9) ?ir25_9 (by kernel_rfl) (by kernel_rfl) (by kernel_rfl) (fun _ _ _ h => h) ?yr25_9 (by assumption) ?wr25_9
  case ir25_9 => (simp only [List.getElem?_toArray, List.getElem?_cons_succ, List.getElem?_cons_zero]; rfl)
  case yr25_9 => exact Or.inl ⟨by rfl, by intro v hSw; (try dsimp only at hSw); go_simp; try with_reducible rfl⟩
  try simp only [Act.put, List.setIfInBounds_toArray, List.set_cons_zero, List.set_cons_succ]
  refine wpAnyH_take (i := 10) (oi := ?or25_10) (v := ?vr25_10) ?ir25_10 (by kernel_rfl) (by kernel_rfl) (by kernel_rfl) (fun _ _ _ h => h) ?yr25_10 (by assumption) ?wr25_10
  case ir25_10 => (simp only [List.getElem?_toArray, List.getElem?_cons_succ, List.getElem?_cons_zero]; rfl)
  case yr25_10 => exact Or.inl ⟨by rfl, by intro v hSw; (try dsimp only at hSw); go_simp; try with_reducible rfl⟩
  try simp only [Act.put, List.setIfInBounds_toArray, List.set_cons_zero, List.set_cons_succ]
  refine wpAnyH_done (by kernel_rfl) ?_ _
  refine NoPanic.normal ?_
  all_goals
    go_wp2
    go_ret
    exact ⟨ret_int (by rw [HR.out, Int.max_comm]), by (repeat (first | with_reducible assumption | with_reducible exact Below.refl _ _ | with_reducible refine bel_alloc ?_ _ | with_reducible refine bel_drew ?_ | with_reducible refine bel_drewN ?_ _ | with_reducible refine bel_set ?_ (by first | omega | (simp; done) | (simp; omega)) _ | with_reducible refine bel_trans ?_ (by with_reducible assumption) | exact Below.refl _ _ | assumption | refine bel_alloc ?_ _ | refine bel_drew ?_ | refine bel_drewN ?_ _ | refine bel_set ?_ (by first | omega | (simp; done) | (simp; omega)) _ | refine bel_trans ?_ (by assumption)))⟩
end Go.Proofs.Ytoiifopjipfjhaa
