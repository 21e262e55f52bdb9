/- OpValid in both programs, and its law's walk. The forms of operations and the layout of the header are as the program's text lays them. -/
import Derived.Test.YtaiemogcboidhaaGreatDoorYl
import Derived.Test.YtaiemogcboidhaaGreatDoorIb
import Derived.Test.YtaiemogcboidhaaGreatDoorQy
namespace Go.Proofs.YtaiemogcboidhaaGreatDoor
open Go.ChangeShapes Go.WideShapes Go.ChangeAt Go.RowKit Go.Joins
set_option linter.unusedVariables false
set_option linter.unusedSimpArgs false

theorem s13_bel {w v v' : World} {a0 a1 a2 a3 a4 a5 a6 a7 a8 a9 a10 a11 a12 : Addr} {x0 x1 x2 x3 x4 x5 x6 x7 x8 x9 x10 x11 x12 : Value} (hb : Below v.heap.size v v') (h : v.cell? a0 = some x0 ∧ v.cell? a1 = some x1 ∧ v.cell? a2 = some x2 ∧ v.cell? a3 = some x3 ∧ v.cell? a4 = some x4 ∧ v.cell? a5 = some x5 ∧ v.cell? a6 = some x6 ∧ v.cell? a7 = some x7 ∧ v.cell? a8 = some x8 ∧ v.cell? a9 = some x9 ∧ v.cell? a10 = some x10 ∧ v.cell? a11 = some x11 ∧ v.cell? a12 = some x12 ∧ Below w.heap.size w v) : v'.cell? a0 = some x0 ∧ v'.cell? a1 = some x1 ∧ v'.cell? a2 = some x2 ∧ v'.cell? a3 = some x3 ∧ v'.cell? a4 = some x4 ∧ v'.cell? a5 = some x5 ∧ v'.cell? a6 = some x6 ∧ v'.cell? a7 = some x7 ∧ v'.cell? a8 = some x8 ∧ v'.cell? a9 = some x9 ∧ v'.cell? a10 = some x10 ∧ v'.cell? a11 = some x11 ∧ v'.cell? a12 = some x12 ∧ Below w.heap.size w v' := ⟨cell_to h.1 hb, cell_to h.2.1 hb, cell_to h.2.2.1 hb, cell_to h.2.2.2.1 hb, cell_to h.2.2.2.2.1 hb, cell_to h.2.2.2.2.2.1 hb, cell_to h.2.2.2.2.2.2.1 hb, cell_to h.2.2.2.2.2.2.2.1 hb, cell_to h.2.2.2.2.2.2.2.2.1 hb, cell_to h.2.2.2.2.2.2.2.2.2.1 hb, cell_to h.2.2.2.2.2.2.2.2.2.2.1 hb, cell_to h.2.2.2.2.2.2.2.2.2.2.2.1 hb, cell_to h.2.2.2.2.2.2.2.2.2.2.2.2.1 hb, bel_trans h.2.2.2.2.2.2.2.2.2.2.2.2.2 hb⟩
theorem s13_drew {w v : World} {a0 a1 a2 a3 a4 a5 a6 a7 a8 a9 a10 a11 a12 : Addr} {x0 x1 x2 x3 x4 x5 x6 x7 x8 x9 x10 x11 x12 : Value} (h : v.cell? a0 = some x0 ∧ v.cell? a1 = some x1 ∧ v.cell? a2 = some x2 ∧ v.cell? a3 = some x3 ∧ v.cell? a4 = some x4 ∧ v.cell? a5 = some x5 ∧ v.cell? a6 = some x6 ∧ v.cell? a7 = some x7 ∧ v.cell? a8 = some x8 ∧ v.cell? a9 = some x9 ∧ v.cell? a10 = some x10 ∧ v.cell? a11 = some x11 ∧ v.cell? a12 = some x12 ∧ Below w.heap.size w v) : v.drew.cell? a0 = some x0 ∧ v.drew.cell? a1 = some x1 ∧ v.drew.cell? a2 = some x2 ∧ v.drew.cell? a3 = some x3 ∧ v.drew.cell? a4 = some x4 ∧ v.drew.cell? a5 = some x5 ∧ v.drew.cell? a6 = some x6 ∧ v.drew.cell? a7 = some x7 ∧ v.drew.cell? a8 = some x8 ∧ v.drew.cell? a9 = some x9 ∧ v.drew.cell? a10 = some x10 ∧ v.drew.cell? a11 = some x11 ∧ v.drew.cell? a12 = some x12 ∧ Below w.heap.size w v.drew := ⟨h.1, h.2.1, h.2.2.1, h.2.2.2.1, h.2.2.2.2.1, h.2.2.2.2.2.1, h.2.2.2.2.2.2.1, h.2.2.2.2.2.2.2.1, h.2.2.2.2.2.2.2.2.1, h.2.2.2.2.2.2.2.2.2.1, h.2.2.2.2.2.2.2.2.2.2.1, h.2.2.2.2.2.2.2.2.2.2.2.1, h.2.2.2.2.2.2.2.2.2.2.2.2.1, bel_drew h.2.2.2.2.2.2.2.2.2.2.2.2.2⟩
theorem s13_alloc {w v : World} {a0 a1 a2 a3 a4 a5 a6 a7 a8 a9 a10 a11 a12 : Addr} {x0 x1 x2 x3 x4 x5 x6 x7 x8 x9 x10 x11 x12 : Value} (h : v.cell? a0 = some x0 ∧ v.cell? a1 = some x1 ∧ v.cell? a2 = some x2 ∧ v.cell? a3 = some x3 ∧ v.cell? a4 = some x4 ∧ v.cell? a5 = some x5 ∧ v.cell? a6 = some x6 ∧ v.cell? a7 = some x7 ∧ v.cell? a8 = some x8 ∧ v.cell? a9 = some x9 ∧ v.cell? a10 = some x10 ∧ v.cell? a11 = some x11 ∧ v.cell? a12 = some x12 ∧ Below w.heap.size w v) (o : Obj) : (v.alloc o).cell? a0 = some x0 ∧ (v.alloc o).cell? a1 = some x1 ∧ (v.alloc o).cell? a2 = some x2 ∧ (v.alloc o).cell? a3 = some x3 ∧ (v.alloc o).cell? a4 = some x4 ∧ (v.alloc o).cell? a5 = some x5 ∧ (v.alloc o).cell? a6 = some x6 ∧ (v.alloc o).cell? a7 = some x7 ∧ (v.alloc o).cell? a8 = some x8 ∧ (v.alloc o).cell? a9 = some x9 ∧ (v.alloc o).cell? a10 = some x10 ∧ (v.alloc o).cell? a11 = some x11 ∧ (v.alloc o).cell? a12 = some x12 ∧ Below w.heap.size w (v.alloc o) := ⟨cell_al h.1 o, cell_al h.2.1 o, cell_al h.2.2.1 o, cell_al h.2.2.2.1 o, cell_al h.2.2.2.2.1 o, cell_al h.2.2.2.2.2.1 o, cell_al h.2.2.2.2.2.2.1 o, cell_al h.2.2.2.2.2.2.2.1 o, cell_al h.2.2.2.2.2.2.2.2.1 o, cell_al h.2.2.2.2.2.2.2.2.2.1 o, cell_al h.2.2.2.2.2.2.2.2.2.2.1 o, cell_al h.2.2.2.2.2.2.2.2.2.2.2.1 o, cell_al h.2.2.2.2.2.2.2.2.2.2.2.2.1 o, bel_alloc h.2.2.2.2.2.2.2.2.2.2.2.2.2 o⟩

/-- the forms of the operations, as the program's text lays them -/
def Frm (w : World) : Prop := ∃ t, w.heap[ 0 ]? = some (.cells #[.string ⟨#[112, 117, 116]⟩, .bool false, .bool true, .bool true, .string ⟨#[97, 112, 112, 101, 110, 100]⟩, .bool false, .bool true, .bool true, .string ⟨#[114, 101, 112, 108, 97, 99, 101]⟩, .bool true, .bool true, .bool true, .string ⟨#[109, 101, 114, 103, 101]⟩, .bool false, .bool true, .bool false, .string ⟨#[100, 101, 108, 101, 116, 101]⟩, .bool false, .bool false, .bool false] t (0, 0))
theorem Frm.on {w w' : World} (h : Frm w) (hb : Below w.heap.size w w') : Frm w' := by
  obtain ⟨t, h⟩ := h
  exact ⟨t, (Blk.on (t := t) h hb)⟩

set_option maxRecDepth 100000 in
theorem frm_cells {H : Type} {enc : TypeId × Value → H} {w : World} {base : Nat} {sp : Nat → Bool} {held : Bool} {fuel : Nat} {cs : List Value} {a : List UInt8} {b c d : Bool} {p : List MemPlace}
    (h : DataW.trod enc Tryz.prog w base sp held fuel 40 cs = some (.agg [.lit (.string a), .lit (.bool b), .lit (.bool c), .lit (.bool d)], p)) : cs = [.string ⟨a.toArray⟩, .bool b, .bool c, .bool d] := by
  obtain ⟨xs, n, rfl, hx, hl, hlen, hf⟩ := DataW.trod_struct Tryz.underlying40 h
  rw [show Tryz.prog.cellsOf 40 = 4 from by kernel_rfl] at hl
  have hs : Tryz.prog.cellsOf 9 = 1 := by kernel_rfl
  have hc : Tryz.prog.cellsOf 4 = 1 := by kernel_rfl
  match cs, hl with
  | [c0, c1, c2, c3], _ =>
    match xs, hlen with
    | [x0, x1, x2, x3], _ =>
      have h0 := hf 0 _ rfl
      have h1 := hf 1 _ rfl
      have h2 := hf 2 _ rfl
      have h3 := hf 3 _ rfl
      simp only [List.getElem_toArray, List.getElem_cons_zero, List.getElem_cons_succ, hc, hs] at h0 h1 h2 h3
      obtain ⟨n0, e0, f0, _⟩ := DataW.trod_string Tryz.underlying9 h0
      obtain ⟨n1, e1, f1⟩ := DataW.trod_bool Tryz.underlying4 h1
      obtain ⟨n2, e2, f2⟩ := DataW.trod_bool Tryz.underlying4 h2
      obtain ⟨n3, e3, f3⟩ := DataW.trod_bool Tryz.underlying4 h3
      simp at e0 e1 e2 e3
      subst e0 e1 e2 e3 f0 f1 f2 f3
      simp at hx
      obtain ⟨⟨rfl, rfl, rfl, rfl⟩, _⟩ := hx
      simp

set_option maxRecDepth 100000 in
theorem frm_array {H : Type} {enc : TypeId × Value → H} {w : World} {base : Nat} {sp : Nat → Bool} {held : Bool} {fuel : Nat} {cs : List Value} {p : List MemPlace}
    (h : DataW.trod enc Tryz.prog w base sp held fuel 41 cs = some (.agg [.agg [.lit (.string [112, 117, 116]), .lit (.bool false), .lit (.bool true), .lit (.bool true)], .agg [.lit (.string [97, 112, 112, 101, 110, 100]), .lit (.bool false), .lit (.bool true), .lit (.bool true)], .agg [.lit (.string [114, 101, 112, 108, 97, 99, 101]), .lit (.bool true), .lit (.bool true), .lit (.bool true)], .agg [.lit (.string [109, 101, 114, 103, 101]), .lit (.bool false), .lit (.bool true), .lit (.bool false)], .agg [.lit (.string [100, 101, 108, 101, 116, 101]), .lit (.bool false), .lit (.bool false), .lit (.bool false)]], p)) :
    cs = [.string ⟨#[112, 117, 116]⟩, .bool false, .bool true, .bool true, .string ⟨#[97, 112, 112, 101, 110, 100]⟩, .bool false, .bool true, .bool true, .string ⟨#[114, 101, 112, 108, 97, 99, 101]⟩, .bool true, .bool true, .bool true, .string ⟨#[109, 101, 114, 103, 101]⟩, .bool false, .bool true, .bool false, .string ⟨#[100, 101, 108, 101, 116, 101]⟩, .bool false, .bool false, .bool false] := by
  obtain ⟨xs, n, rfl, hx, hl, hlen, hf⟩ := DataW.trod_array Tryz.underlying41 h
  rw [show Tryz.prog.cellsOf 41 = 20 from by kernel_rfl] at hl
  have hc : Tryz.prog.cellsOf 40 = 4 := by kernel_rfl
  match xs, hlen with
  | [x0, x1, x2, x3, x4], _ =>
    simp only [List.map_cons, List.map_nil, Prod.mk.injEq, DataW.agg.injEq, List.cons.injEq, and_true] at hx
    obtain ⟨⟨g0, g1, g2, g3, g4⟩, _⟩ := hx
    match cs, hl with
    | [c0, c1, c2, c3, c4, c5, c6, c7, c8, c9, c10, c11, c12, c13, c14, c15, c16, c17, c18, c19], _ =>
      have h0 := hf 0 (by omega)
      have h1 := hf 1 (by omega)
      have h2 := hf 2 (by omega)
      have h3 := hf 3 (by omega)
      have h4 := hf 4 (by omega)
      simp only [hc] at h0 h1 h2 h3 h4
      have k0 := frm_cells (h0.trans (show _ = some (x0.1, x0.2) from rfl) |>.trans (by rw [← g0]))
      have k1 := frm_cells (h1.trans (show _ = some (x1.1, x1.2) from rfl) |>.trans (by rw [← g1]))
      have k2 := frm_cells (h2.trans (show _ = some (x2.1, x2.2) from rfl) |>.trans (by rw [← g2]))
      have k3 := frm_cells (h3.trans (show _ = some (x3.1, x3.2) from rfl) |>.trans (by rw [← g3]))
      have k4 := frm_cells (h4.trans (show _ = some (x4.1, x4.2) from rfl) |>.trans (by rw [← g4]))
      simp at k0 k1 k2 k3 k4
      simp_all

set_option maxRecDepth 100000 in
theorem frm_of {l : List (String × DataW Unit)} {nm : String} {W : World} (hg : Tryz.prog.globalNamed nm = some 0) (ht : (Tryz.prog.globals[ 0 ]?).map (·.type) = some 41)
    (h : laidMet Tryz.prog ((nm, .agg [.agg [.lit (.string [112, 117, 116]), .lit (.bool false), .lit (.bool true), .lit (.bool true)], .agg [.lit (.string [97, 112, 112, 101, 110, 100]), .lit (.bool false), .lit (.bool true), .lit (.bool true)], .agg [.lit (.string [114, 101, 112, 108, 97, 99, 101]), .lit (.bool true), .lit (.bool true), .lit (.bool true)], .agg [.lit (.string [109, 101, 114, 103, 101]), .lit (.bool false), .lit (.bool true), .lit (.bool false)], .agg [.lit (.string [100, 101, 108, 101, 116, 101]), .lit (.bool false), .lit (.bool false), .lit (.bool false)]]) :: l) W) : Frm W := by
  obtain ⟨ps, ⟨g0, t0, cs, f0, p0, q0, hg0, ht0, hv, hd, _, e0⟩, _, hrows⟩ := h
  obtain rfl := Option.some.inj (hg.symm.trans hg0)
  obtain rfl := Option.some.inj (ht.symm.trans ht0)
  have hcs := frm_array hd
  obtain ⟨cs⟩ := cs
  simp only at hcs
  subst hcs e0
  obtain ⟨⟨c, t, hh⟩, _⟩ := hrows 0 0 (by simp [MemPlace.row])
  refine ⟨t, ?_⟩
  unfold World.var? at hv
  rw [hg] at hv
  simp only [Option.bind_some, hh] at hv
  obtain rfl := Option.some.inj hv
  exact hh

/-- a small letter -/
def lowB (c : UInt8) : Bool := decide (97 ≤ (c.toNat : Int)) && decide ((c.toNat : Int) ≤ 122)
/-- a name is of small letters -/
def nmB (T : ByteArray) : Bool := T.data.toList.all lowB && inB T.size 1 8

set_option maxHeartbeats 4000000 in
set_option maxRecDepth 100000 in
theorem c_l8Name (T : ByteArray) (w : World) (hT : T.size ≤ 1048576) : Calls Tryz.prog 50 #[.string T] w (Same (.bool (nmB T)) w) := by
  obtain ⟨q, hq⟩ : ∃ q, q = nmB T := ⟨_, rfl⟩
  rw [← hq]
  have HQ := hid hq
  have HI := hid (fun v => c_l1In (T.size : Nat) 1 8 v)
  clear hq
  go_enter Tryz.func50, Tryz.ntmps50
  go_wp2_with fail
  go_loop [3] (fun i => ∃ k : Nat, k ≤ T.size ∧ i = .int .i64 k ∧ Hid ((T.data.toList.take k).all lowB = true)) (fun i => T.size - (intOf i).toNat)
  case atStart => exact ⟨0, Nat.zero_le _, rfl, hid rfl⟩
  case round =>
    obtain ⟨k, hk, rfl, HF⟩ := hrel
    by_cases hlt : k < T.size
    · have hb8 := byte_le T k hlt
      by_cases h1 : ((T[k]).toNat : Int) < 97
      · have HR := hid (show q = false by rw [HQ.out, nmB, all_not T _ k hlt (by simp [lowB]; omega)]; rfl)
        go_wp2
        go_ret
        exact ⟨ret_bool (by rw [HR.out]), rfl⟩
      · by_cases h2 : 122 < ((T[k]).toNat : Int)
        · have HR := hid (show q = false by rw [HQ.out, nmB, all_not T _ k hlt (by simp [lowB]; omega)]; rfl)
          go_wp2
          go_ret
          exact ⟨ret_bool (by rw [HR.out]), rfl⟩
        · have HG := hid (show (T.data.toList.take (k + 1)).all lowB = true by rw [all_snoc T _ k hlt, HF.out]; simp [lowB]; omega)
          go_wp2
          go_round
          case rel => exact ⟨k + 1, by omega, by go_num, HG⟩
          case measure => simp [intOf]; omega
    · have HR := hid (show q = inB T.size 1 8 by rw [HQ.out, nmB, ← all_whole T _ k (by omega), HF.out, Bool.true_and])
      go_wp2_with fail
      refine (HI.out _).mono ?_
      rintro e w1 ⟨rfl, rfl⟩
      go_wp2
      go_ret
      exact ⟨ret_bool (by rw [HR.out]), rfl⟩

set_option maxHeartbeats 4000000 in
set_option maxRecDepth 100000 in
theorem c_nameValid (T : ByteArray) (w : World) (hT : T.size ≤ 1048576) : Calls Tryz.prog 24 #[.string T] w (Same (.bool (nmB T)) w) := by
  obtain ⟨q, hq⟩ : ∃ q, q = nmB T := ⟨_, rfl⟩
  rw [← hq]
  have HQ := hid hq
  clear hq
  by_cases hz1 : (T.size : Int) < 1
  · have HR := hid (show q = false by rw [HQ.out, nmB, show inB T.size 1 8 = false from by rw [Bool.eq_false_iff]; exact fun e => by have := inB_iff.1 e; omega, Bool.and_false])
    go_enter Tryz.func24, Tryz.ntmps24
    go_wp2_with fail
    go_ret
    exact ⟨ret_bool (by rw [HR.out]), rfl⟩
  by_cases hz2 : 8 < (T.size : Int)
  · have HR := hid (show q = false by rw [HQ.out, nmB, show inB T.size 1 8 = false from by rw [Bool.eq_false_iff]; exact fun e => by have := inB_iff.1 e; omega, Bool.and_false])
    go_enter Tryz.func24, Tryz.ntmps24
    go_wp2_with fail
    go_ret
    exact ⟨ret_bool (by rw [HR.out]), rfl⟩
  have HI := hid (show inB T.size 1 8 = true from inB_iff.2 (by omega))
  go_enter Tryz.func24, Tryz.ntmps24
  go_wp2_with fail
  go_loop [14] (fun i => ∃ k : Nat, k ≤ T.size ∧ i = .int .i64 k ∧ Hid ((T.data.toList.take k).all lowB = true)) (fun i => T.size - (intOf i).toNat)
  case atStart => exact ⟨0, Nat.zero_le _, rfl, hid rfl⟩
  case round =>
    obtain ⟨k, hk, rfl, HF⟩ := hrel
    by_cases hlt : k < T.size
    · have hb8 := byte_le T k hlt
      by_cases h1 : ((T[k]).toNat : Int) < 97
      · have HR := hid (show q = false by rw [HQ.out, nmB, all_not T _ k hlt (by simp [lowB]; omega)]; rfl)
        go_wp2
        go_ret
        exact ⟨ret_bool (by rw [HR.out]), rfl⟩
      · by_cases h2 : 122 < ((T[k]).toNat : Int)
        · have HR := hid (show q = false by rw [HQ.out, nmB, all_not T _ k hlt (by simp [lowB]; omega)]; rfl)
          go_wp2
          go_ret
          exact ⟨ret_bool (by rw [HR.out]), rfl⟩
        · have HG := hid (show (T.data.toList.take (k + 1)).all lowB = true by rw [all_snoc T _ k hlt, HF.out]; simp [lowB]; omega)
          go_wp2
          go_round
          case rel => exact ⟨k + 1, by omega, by go_num, HG⟩
          case measure => simp [intOf]; omega
    · have HR := hid (show q = true by rw [HQ.out, nmB, ← all_whole T _ k (by omega), HF.out, HI.out]; rfl)
      go_wp2
      go_ret
      exact ⟨ret_bool (by rw [HR.out]), rfl⟩

set_option maxHeartbeats 8000000 in
set_option maxRecDepth 100000 in
theorem c_only (wd : ByteArray) (r s h : Bool) (k : Int) (nm : ByteArray) (f t z : Int) (d : ByteArray) (w : World) : Calls Tryz.prog 25 #[.agg #[.string wd, .bool r, .bool s, .bool h], .agg #[.int .i64 k, .string nm, .int .i64 f, .int .i64 t, .int .i64 z, .string d]] w fun e w' => e = .returned (.agg #[.int .i64 k, .string nm, .int .i64 (cond r f 0), .int .i64 (cond r t 0), .int .i64 (cond s z 0), .string (cond h d ⟨#[]⟩)]) ∧ Below w.heap.size w w' := by
  cases r <;> cases s <;> cases h
  all_goals
    go_enter Tryz.func25, Tryz.ntmps25
    go_wp2_with fail
    exact bodyPost_ret (v := .agg #[.int .i64 k, .string nm, .int .i64 (cond _ f 0), .int .i64 (cond _ t 0), .int .i64 (cond _ z 0), .string (cond _ d ⟨#[]⟩)]) (by simp [results, Tryz.results25, go_sem] <;> rfl) rfl ⟨rfl, by exact obB⟩

theorem lay3K (w : World) (h : Lay w) : w.cell? ⟨1, 9, none⟩ = some (.int .i64 2) ∧ w.cell? ⟨1, 10, none⟩ = some (.int .i64 1) ∧ w.cell? ⟨1, 11, none⟩ = some (.int .i64 64) := by
  obtain ⟨t, h⟩ := h
  have hB : Blk w 1 t _ := h
  exact ⟨hB.cell 9, hB.cell 10, hB.cell 11⟩
/-- what a form keeps of an operation is all of it -/
def keepsB (r s h : Bool) (f t z : Int) (d : ByteArray) : Prop := f = cond r f 0 ∧ t = cond r t 0 ∧ z = cond s z 0 ∧ d = cond h d ⟨#[]⟩
/-- the operation is valid, but for its kind and name -/
def restB (r s h : Bool) (f t z : Int) (d : ByteArray) : Prop := keepsB r s h f t z d ∧ (s = true → 1 ≤ z ∧ z ≤ 64) ∧ (0 ≤ f ∧ f ≤ t ∧ t ≤ 2000 ∧ d.size ≤ 2000)
noncomputable instance (r s h : Bool) (f t z : Int) (d : ByteArray) : Decidable (restB r s h f t z d) := Classical.propDecidable _

theorem nokeep {r s h : Bool} {f t z : Int} {d : ByteArray} (hk : ¬ (f = cond r f 0 ∧ t = cond r t 0 ∧ z = cond s z 0 ∧ d = cond h d ⟨#[]⟩)) {α : Type} (a b : α) :
    (if f = bif r then f else 0 then if t = bif r then t else 0 then if z = bif s then z else 0 then if d.toList = (bif h then d else { data := #[] }).toList then a else b else b else b else b) = b := by
  split
  case isTrue h1 =>
    split
    case isTrue h2 =>
      split
      case isTrue h3 =>
        split
        case isTrue h4 =>
          rw [ByteArray.toList_eq, ByteArray.toList_eq] at h4
          exact absurd ⟨h1, h2, h3, bytes_inj h4⟩ hk
        rfl
      rfl
    rfl
  rfl

set_option maxHeartbeats 8000000 in
set_option maxRecDepth 100000 in
theorem c_OpValid_in (kn : Nat) (hk : kn < 5) (wd : ByteArray) (r s h : Bool) (nm : ByteArray) (f t z : Int) (d : ByteArray) (w : World) (hn : nm.size ≤ 1048576) (hd : d.size ≤ 1048576) (hf : -9223372036854775808 ≤ f ∧ f ≤ 9223372036854775807) (ht : -9223372036854775808 ≤ t ∧ t ≤ 9223372036854775807) (hnm : nmB nm = true) (hLy : Lay w)
    (hF : ∀ v, Below w.heap.size w v → v.cell? ⟨0, kn * 4, none⟩ = some (.string wd) ∧ v.cell? ⟨0, kn * 4 + 1, none⟩ = some (.bool r) ∧ v.cell? ⟨0, kn * 4 + 2, none⟩ = some (.bool s) ∧ v.cell? ⟨0, kn * 4 + 3, none⟩ = some (.bool h)) (hFl : 0 < w.heap.size) :
    Calls Tryz.prog 8 #[.agg #[.int .i64 kn, .string nm, .int .i64 f, .int .i64 t, .int .i64 z, .string d]] w fun e w' => e = .returned (.bool (decide (restB r s h f t z d))) ∧ Below w.heap.size w w' := by
  have HN := hid (fun v => c_nameValid nm v hn)
  rw [hnm] at HN
  have HO := hid (fun v => c_only wd r s h kn nm f t z d v)
  have HA := hid (fun v => c_allows 2 1 64 z v)
  have HP := hid (fun v => c_patchValidI f t d v hf ht (by unfold maxLen; omega))
  obtain ⟨pv, hpv⟩ : ∃ pv, pv = decide (0 ≤ f ∧ f ≤ t ∧ t ≤ 2000 ∧ d.size ≤ 2000) := ⟨_, rfl⟩
  rw [← hpv] at HP
  have HV := hid hpv
  clear hpv
  have hB0 : Below w.heap.size w (w.alloc (.cells #[.int .i64 kn, .string nm, .int .i64 f, .int .i64 t, .int .i64 z, .string d] 24)) := bel_alloc (Below.refl _ w) _
  have kS := Blk.new w 24 #[.int .i64 kn, .string nm, .int .i64 f, .int .i64 t, .int .i64 z, .string d]
  have HY := hid kS
  obtain ⟨y0, y1, y2, y3, y4, y5⟩ := HY.out.cells6
  obtain ⟨W1, hW1⟩ : ∃ W1, W1 = w.alloc (.cells #[.int .i64 kn, .string nm, .int .i64 f, .int .i64 t, .int .i64 z, .string d] 24) := ⟨_, rfl⟩
  rw [← hW1] at hB0 HY
  have hz1 := hB0.size
  have hsz1 : W1.heap.size = w.heap.size + 1 := by rw [hW1, World.size_alloc]
  obtain ⟨q0, q1, q2, q3⟩ := hF W1 hB0
  have hk5 : (kn : Int) < 5 := by omega
  have hk5n : ¬ (5 : Int) ≤ (kn : Int) := by omega
  have hg0 : 0 < W1.heap.size := by omega
  have hRB := Blk.new W1 40 #[.string ⟨#[]⟩, .bool false, .bool false, .bool false]
  obtain ⟨s0, s1, s2, s3⟩ := hRB.cells4y
  have f0 := hRB.frozen 0
  have f1 := hRB.frozen 1
  have f2 := hRB.frozen 2
  have f3 := hRB.frozen 3
  have HLy := hid (lay3K _ (hLy.on (hB0.trans ((bel_alloc (Below.refl _ W1) (.cells #[.string wd, .bool r, .bool s, .bool h] 40)).mono hz1))))
  have HK2 := hid (Blk.new W1 40 #[.string wd, .bool r, .bool s, .bool h])
  have HY2 := hid (HY.out.alloc (.cells #[.string wd, .bool r, .bool s, .bool h] 40))
  have HB2 := hid (hB0.trans ((bel_alloc (Below.refl _ W1) (.cells #[.string wd, .bool r, .bool s, .bool h] 40)).mono hz1))
  clear kS hRB hnm hn hd hf ht hF hLy
  go_enter Tryz.func8, Tryz.ntmps8
  go_wp2_with fail
  refine (HN.out _).mono ?_
  rintro e w9 ⟨rfl, rfl⟩
  rw [← hW1]
  clear hW1
  obtain ⟨y0, y1, y2, y3, y4, y5⟩ := HY.out.cells6
  go_wp2_with fail
  obtain ⟨V, hV⟩ : ∃ V, V = W1.alloc (.cells #[.string wd, .bool r, .bool s, .bool h] 40) := ⟨_, rfl⟩
  have hS : V.cell? ⟨w.heap.size, 0, none⟩ = some (.int .i64 kn) ∧ V.cell? ⟨w.heap.size, 1, none⟩ = some (.string nm) ∧ V.cell? ⟨w.heap.size, 2, none⟩ = some (.int .i64 f) ∧ V.cell? ⟨w.heap.size, 3, none⟩ = some (.int .i64 t) ∧ V.cell? ⟨w.heap.size, 4, none⟩ = some (.int .i64 z) ∧ V.cell? ⟨w.heap.size, 5, none⟩ = some (.string d) ∧ V.cell? ⟨w.heap.size + 1, 2, none⟩ = some (.bool s) ∧ V.cell? ⟨1, 9, none⟩ = some (.int .i64 2) ∧ V.cell? ⟨1, 10, none⟩ = some (.int .i64 1) ∧ V.cell? ⟨1, 11, none⟩ = some (.int .i64 64) ∧ V.cell? ⟨w.heap.size + 1, 0, none⟩ = some (.string wd) ∧ V.cell? ⟨w.heap.size + 1, 1, none⟩ = some (.bool r) ∧ V.cell? ⟨w.heap.size + 1, 3, none⟩ = some (.bool h) ∧ Below V.heap.size V V := by
    have a := HY2.out.cells6
    have b := HK2.out.cells4y
    have c := HLy.out
    rw [hsz1] at b
    rw [hV]
    exact ⟨a.1, a.2.1, a.2.2.1, a.2.2.2.1, a.2.2.2.2.1, a.2.2.2.2.2, b.2.2.1, c.1, c.2.1, c.2.2, b.1, b.2.1, b.2.2.2, Below.refl _ _⟩
  have hB2 := HB2.out
  rw [← hV] at hB2 ⊢
  clear hV HB2 HLy HK2 HY2 HN y0 y1 y2 y3 y4 y5 q0 q1 q2 q3 s0 s1 s2 s3 f0 f1 f2 f3 hB0 HY
  by_cases hkp : keepsB r s h f t z d
  · have HO' := hid (fun v => (show Calls Tryz.prog 25 #[.agg #[.string wd, .bool r, .bool s, .bool h], .agg #[.int .i64 kn, .string nm, .int .i64 f, .int .i64 t, .int .i64 z, .string d]] v fun e w' => e = .returned (.agg #[.int .i64 kn, .string nm, .int .i64 f, .int .i64 t, .int .i64 z, .string d]) ∧ Below v.heap.size v w' from by
      have := HO.out v
      rwa [← hkp.1, ← hkp.2.1, ← hkp.2.2.1, ← hkp.2.2.2] at this))
    clear HO
    cases hs0 : s with
    | false =>
      rw [hs0] at hS HO'
      refine qB (S := (fun v => v.cell? ⟨w.heap.size, 0, none⟩ = some (.int .i64 kn) ∧ v.cell? ⟨w.heap.size, 1, none⟩ = some (.string nm) ∧ v.cell? ⟨w.heap.size, 2, none⟩ = some (.int .i64 f) ∧ v.cell? ⟨w.heap.size, 3, none⟩ = some (.int .i64 t) ∧ v.cell? ⟨w.heap.size, 4, none⟩ = some (.int .i64 z) ∧ v.cell? ⟨w.heap.size, 5, none⟩ = some (.string d) ∧ v.cell? ⟨w.heap.size + 1, 2, none⟩ = some (.bool false) ∧ v.cell? ⟨1, 9, none⟩ = some (.int .i64 2) ∧ v.cell? ⟨1, 10, none⟩ = some (.int .i64 1) ∧ v.cell? ⟨1, 11, none⟩ = some (.int .i64 64) ∧ v.cell? ⟨w.heap.size + 1, 0, none⟩ = some (.string wd) ∧ v.cell? ⟨w.heap.size + 1, 1, none⟩ = some (.bool r) ∧ v.cell? ⟨w.heap.size + 1, 3, none⟩ = some (.bool h) ∧ Below V.heap.size V v)) (by kernel_rfl) (by kernel_rfl) (s13_drew hS) ?_
      refine qK ?_
      refine qK ?_
      refine qK ?_
      refine qC (fun wq hSq => HO'.out wq) (fun wq wr hbr hSq => s13_bel hbr hSq) ?_
      refine qK ?_
      refine qK ?_
      refine qK ?_
      refine qK ?_
      refine qK ?_
      refine qU ?_
      refine qU ?_
      refine qU ?_
      refine qU ?_
      refine qU ?_
      refine qU ?_
      refine qK ?_
      refine qK ?_
      refine qN ?_
      intro wq hSq
      (try dsimp only at hSq)
      obtain ⟨p0, p1, p2, p3, p4, p5, p6, p7, p8, p9, p10, p11, p12, hbq⟩ := hSq
      have hB3 := hB2.trans (hbq.mono hB2.size)
      clear hS p0 p1 p6 p7 p8 p9 p10 p11 p12 hbq hB2 HA HO'
      have HR := hid (show decide (restB r s h f t z d) = pv from by rw [HV.out, hs0]; exact decide_eq_decide.2 ⟨fun e => e.2.2, fun e => ⟨by rw [hs0] at hkp; exact hkp, by simp, e⟩⟩)
      clear hkp
      go_wp2_with fail
      refine (HP.out _).mono ?_
      rintro e w5 ⟨rfl, hb5⟩
      have hB5 := hB3.trans (hb5.mono hB3.size)
      clear hB3 hb5
      go_wp2_with fail
      go_ret
      exact ⟨ret_bool (by rw [HR.out]), hB5⟩
    | true =>
      rw [hs0] at hS HO'
      by_cases hz : inB z 1 64 = true
      · rw [hz] at HA
        refine qB (S := (fun v => v.cell? ⟨w.heap.size, 0, none⟩ = some (.int .i64 kn) ∧ v.cell? ⟨w.heap.size, 1, none⟩ = some (.string nm) ∧ v.cell? ⟨w.heap.size, 2, none⟩ = some (.int .i64 f) ∧ v.cell? ⟨w.heap.size, 3, none⟩ = some (.int .i64 t) ∧ v.cell? ⟨w.heap.size, 4, none⟩ = some (.int .i64 z) ∧ v.cell? ⟨w.heap.size, 5, none⟩ = some (.string d) ∧ v.cell? ⟨w.heap.size + 1, 2, none⟩ = some (.bool true) ∧ v.cell? ⟨1, 9, none⟩ = some (.int .i64 2) ∧ v.cell? ⟨1, 10, none⟩ = some (.int .i64 1) ∧ v.cell? ⟨1, 11, none⟩ = some (.int .i64 64) ∧ v.cell? ⟨w.heap.size + 1, 0, none⟩ = some (.string wd) ∧ v.cell? ⟨w.heap.size + 1, 1, none⟩ = some (.bool r) ∧ v.cell? ⟨w.heap.size + 1, 3, none⟩ = some (.bool h) ∧ Below V.heap.size V v)) (by kernel_rfl) (by kernel_rfl) (s13_drew hS) ?_
        refine qK ?_
        refine qK ?_
        refine qK ?_
        refine qC (fun wq hSq => HO'.out wq) (fun wq wr hbr hSq => s13_bel hbr hSq) ?_
        refine qK ?_
        refine qK ?_
        refine qK ?_
        refine qK ?_
        refine qK ?_
        refine qK ?_
        refine qK ?_
        refine qK ?_
        refine qK ?_
        refine qC (fun wq hSq => HA.out wq) (fun wq wr hbr hSq => s13_bel hbr hSq) ?_
        refine qK ?_
        refine qK ?_
        refine qK ?_
        refine qN ?_
        intro wq hSq
        (try dsimp only at hSq)
        obtain ⟨p0, p1, p2, p3, p4, p5, p6, p7, p8, p9, p10, p11, p12, hbq⟩ := hSq
        have hB3 := hB2.trans (hbq.mono hB2.size)
        clear hS p0 p1 p6 p7 p8 p9 p10 p11 p12 hbq hB2 HA HO'
        have HR := hid (show decide (restB r s h f t z d) = pv from by rw [HV.out, hs0]; exact decide_eq_decide.2 ⟨fun e => e.2.2, fun e => ⟨by rw [hs0] at hkp; exact hkp, fun _ => inB_iff.1 hz, e⟩⟩)
        clear hkp
        go_wp2_with fail
        refine (HP.out _).mono ?_
        rintro e w5 ⟨rfl, hb5⟩
        have hB5 := hB3.trans (hb5.mono hB3.size)
        clear hB3 hb5
        go_wp2_with fail
        go_ret
        exact ⟨ret_bool (by rw [HR.out]), hB5⟩
      · rw [Bool.eq_false_iff.2 hz] at HA
        have HR := hid (show decide (restB r s h f t z d) = false from by rw [hs0]; exact decide_eq_false fun e => hz (inB_iff.2 (e.2.1 rfl)))
        refine qB (S := (fun v => v.cell? ⟨w.heap.size, 0, none⟩ = some (.int .i64 kn) ∧ v.cell? ⟨w.heap.size, 1, none⟩ = some (.string nm) ∧ v.cell? ⟨w.heap.size, 2, none⟩ = some (.int .i64 f) ∧ v.cell? ⟨w.heap.size, 3, none⟩ = some (.int .i64 t) ∧ v.cell? ⟨w.heap.size, 4, none⟩ = some (.int .i64 z) ∧ v.cell? ⟨w.heap.size, 5, none⟩ = some (.string d) ∧ v.cell? ⟨w.heap.size + 1, 2, none⟩ = some (.bool true) ∧ v.cell? ⟨1, 9, none⟩ = some (.int .i64 2) ∧ v.cell? ⟨1, 10, none⟩ = some (.int .i64 1) ∧ v.cell? ⟨1, 11, none⟩ = some (.int .i64 64) ∧ v.cell? ⟨w.heap.size + 1, 0, none⟩ = some (.string wd) ∧ v.cell? ⟨w.heap.size + 1, 1, none⟩ = some (.bool r) ∧ v.cell? ⟨w.heap.size + 1, 3, none⟩ = some (.bool h) ∧ Below V.heap.size V v)) (by kernel_rfl) (by kernel_rfl) (s13_drew hS) ?_
        refine qK ?_
        refine qK ?_
        refine qK ?_
        refine qC (fun wq hSq => HO'.out wq) (fun wq wr hbr hSq => s13_bel hbr hSq) ?_
        refine qK ?_
        refine qK ?_
        refine qK ?_
        refine qK ?_
        refine qK ?_
        refine qK ?_
        refine qK ?_
        refine qK ?_
        refine qK ?_
        refine qC (fun wq hSq => HA.out wq) (fun wq wr hbr hSq => s13_bel hbr hSq) ?_
        refine qK ?_
        refine qK ?_
        refine qK ?_
        refine qN ?_
        intro wq hSq
        (try dsimp only at hSq)
        have hB3 := hB2.trans (hSq.2.2.2.2.2.2.2.2.2.2.2.2.2.mono hB2.size)
        clear hS hSq hB2 HA HO'
        go_wp2_with fail
        go_ret
        exact ⟨ret_bool (by rw [HR.out]), hB3⟩
  · have HR := hid (show decide (restB r s h f t z d) = false from decide_eq_false fun e => hkp e.1)
    have HK := hid (show ¬ (f = cond r f 0 ∧ t = cond r t 0 ∧ z = cond s z 0 ∧ d = cond h d ⟨#[]⟩) from hkp)
    clear hkp
    refine qB (S := (fun v => v.cell? ⟨w.heap.size, 0, none⟩ = some (.int .i64 kn) ∧ v.cell? ⟨w.heap.size, 1, none⟩ = some (.string nm) ∧ v.cell? ⟨w.heap.size, 2, none⟩ = some (.int .i64 f) ∧ v.cell? ⟨w.heap.size, 3, none⟩ = some (.int .i64 t) ∧ v.cell? ⟨w.heap.size, 4, none⟩ = some (.int .i64 z) ∧ v.cell? ⟨w.heap.size, 5, none⟩ = some (.string d) ∧ v.cell? ⟨w.heap.size + 1, 2, none⟩ = some (.bool s) ∧ v.cell? ⟨1, 9, none⟩ = some (.int .i64 2) ∧ v.cell? ⟨1, 10, none⟩ = some (.int .i64 1) ∧ v.cell? ⟨1, 11, none⟩ = some (.int .i64 64) ∧ v.cell? ⟨w.heap.size + 1, 0, none⟩ = some (.string wd) ∧ v.cell? ⟨w.heap.size + 1, 1, none⟩ = some (.bool r) ∧ v.cell? ⟨w.heap.size + 1, 3, none⟩ = some (.bool h) ∧ Below V.heap.size V v)) (by kernel_rfl) (by kernel_rfl) (s13_drew hS) ?_
    refine qK ?_
    refine qK ?_
    refine qK ?_
    refine qC (fun wq hSq => HO.out wq) (fun wq wr hbr hSq => s13_bel hbr hSq) ?_
    refine qK ?_ (hy := fun wq hSq => by (try dsimp only at hSq); go_simp; exact nokeep HK.out _ _)
    refine qK ?_
    refine qU ?_
    refine qU ?_
    refine qU ?_
    refine qU ?_
    refine qU ?_
    refine qU ?_
    refine qU ?_
    refine qU ?_
    refine qU ?_
    refine qU ?_
    refine qK ?_
    refine qN ?_
    intro wq hSq
    (try dsimp only at hSq)
    have hB3 := hB2.trans (hSq.2.2.2.2.2.2.2.2.2.2.2.2.2.mono hB2.size)
    clear hS hSq hB2 HA HO
    go_wp2_with fail
    go_ret
    exact ⟨ret_bool (by rw [HR.out]), hB3⟩

/-- an operation is valid -/
noncomputable def opB (k : Int) (nm : ByteArray) (f t z : Int) (d : ByteArray) : Bool := decide ((0 ≤ k ∧ k < 5) ∧ nmB nm = true ∧ restB (decide (k = 2)) (decide (k ≠ 4)) (decide (k < 3)) f t z d)

set_option maxHeartbeats 4000000 in
set_option maxRecDepth 100000 in
theorem c_OpValid_low (k : Int) (nm : ByteArray) (f t z : Int) (d : ByteArray) (w : World) (hk : k < 0) : Calls Tryz.prog 8 #[.agg #[.int .i64 k, .string nm, .int .i64 f, .int .i64 t, .int .i64 z, .string d]] w fun e w' => e = .returned (.bool false) ∧ Below w.heap.size w w' := by
  obtain ⟨y0, y1, y2, y3, y4, y5⟩ := (Blk.new w 24 #[.int .i64 k, .string nm, .int .i64 f, .int .i64 t, .int .i64 z, .string d]).cells6
  go_enter Tryz.func8, Tryz.ntmps8
  go_wp2_with fail
  go_ret
  exact ⟨rfl, by exact obB⟩

set_option maxHeartbeats 4000000 in
set_option maxRecDepth 100000 in
theorem c_OpValid_high (k : Int) (nm : ByteArray) (f t z : Int) (d : ByteArray) (w : World) (hk : ¬ k < 0) (hk5 : 5 ≤ k) : Calls Tryz.prog 8 #[.agg #[.int .i64 k, .string nm, .int .i64 f, .int .i64 t, .int .i64 z, .string d]] w fun e w' => e = .returned (.bool false) ∧ Below w.heap.size w w' := by
  obtain ⟨y0, y1, y2, y3, y4, y5⟩ := (Blk.new w 24 #[.int .i64 k, .string nm, .int .i64 f, .int .i64 t, .int .i64 z, .string d]).cells6
  go_enter Tryz.func8, Tryz.ntmps8
  go_wp2_with fail
  go_ret
  exact ⟨rfl, by exact obB⟩

set_option maxHeartbeats 4000000 in
set_option maxRecDepth 100000 in
theorem c_OpValid_nm (k : Int) (nm : ByteArray) (f t z : Int) (d : ByteArray) (w : World) (hk : ¬ k < 0) (hk5 : ¬ 5 ≤ k) (hn : nm.size ≤ 1048576) (hnm : nmB nm = false) : Calls Tryz.prog 8 #[.agg #[.int .i64 k, .string nm, .int .i64 f, .int .i64 t, .int .i64 z, .string d]] w fun e w' => e = .returned (.bool false) ∧ Below w.heap.size w w' := by
  have HN := hid (fun v => c_nameValid nm v hn)
  rw [hnm] at HN
  clear hnm hn
  obtain ⟨y0, y1, y2, y3, y4, y5⟩ := (Blk.new w 24 #[.int .i64 k, .string nm, .int .i64 f, .int .i64 t, .int .i64 z, .string d]).cells6
  go_enter Tryz.func8, Tryz.ntmps8
  go_wp2_with fail
  refine (HN.out _).mono ?_
  rintro e w9 ⟨rfl, rfl⟩
  go_wp2_with fail
  go_ret
  exact ⟨rfl, by exact obB⟩

theorem opB_in (k : Int) (nm : ByteArray) (f t z : Int) (d : ByteArray) (hk : 0 ≤ k ∧ k < 5) (hnm : nmB nm = true) {r s h : Bool} (hr : decide (k = 2) = r) (hs : decide (k ≠ 4) = s) (hh : decide (k < 3) = h) : opB k nm f t z d = decide (restB r s h f t z d) := by
  subst hr hs hh
  exact decide_eq_decide.2 ⟨fun e => e.2.2, fun e => ⟨hk, hnm, e⟩⟩

theorem c_OpValid (k : Int) (nm : ByteArray) (f t z : Int) (d : ByteArray) (w : World) (hn : nm.size ≤ 1048576) (hd : d.size ≤ 1048576) (hf : -9223372036854775808 ≤ f ∧ f ≤ 9223372036854775807) (ht : -9223372036854775808 ≤ t ∧ t ≤ 9223372036854775807) (hLy : Lay w) (hFm : Frm w) :
    Calls Tryz.prog 8 #[.agg #[.int .i64 k, .string nm, .int .i64 f, .int .i64 t, .int .i64 z, .string d]] w fun e w' => e = .returned (.bool (opB k nm f t z d)) ∧ Below w.heap.size w w' := by
  by_cases h0 : k < 0
  · rw [show opB k nm f t z d = false from decide_eq_false fun e => by omega]
    exact c_OpValid_low k nm f t z d w h0
  by_cases h5 : 5 ≤ k
  · rw [show opB k nm f t z d = false from decide_eq_false fun e => by omega]
    exact c_OpValid_high k nm f t z d w h0 h5
  by_cases hnm : nmB nm = true
  · have hFl : 0 < w.heap.size := by
      obtain ⟨t, h⟩ := hFm
      exact Blk.lt (t := t) h
    have hC : k = ((0 : Nat) : Int) ∨ k = ((1 : Nat) : Int) ∨ k = ((2 : Nat) : Int) ∨ k = ((3 : Nat) : Int) ∨ k = ((4 : Nat) : Int) := by omega
    rcases hC with rfl | rfl | rfl | rfl | rfl
    · rw [opB_in _ nm f t z d (by omega) hnm (r := false) (s := true) (h := true) (by decide) (by decide) (by decide)]
      exact c_OpValid_in 0 (by omega) _ _ _ _ nm f t z d w hn hd hf ht hnm hLy (fun v hb => by obtain ⟨t, h⟩ := hFm.on hb; have hB : Blk v 0 t _ := h; exact ⟨hB.cell 0, hB.cell 1, hB.cell 2, hB.cell 3⟩) hFl
    · rw [opB_in _ nm f t z d (by omega) hnm (r := false) (s := true) (h := true) (by decide) (by decide) (by decide)]
      exact c_OpValid_in 1 (by omega) _ _ _ _ nm f t z d w hn hd hf ht hnm hLy (fun v hb => by obtain ⟨t, h⟩ := hFm.on hb; have hB : Blk v 0 t _ := h; exact ⟨hB.cell 4, hB.cell 5, hB.cell 6, hB.cell 7⟩) hFl
    · rw [opB_in _ nm f t z d (by omega) hnm (r := true) (s := true) (h := true) (by decide) (by decide) (by decide)]
      exact c_OpValid_in 2 (by omega) _ _ _ _ nm f t z d w hn hd hf ht hnm hLy (fun v hb => by obtain ⟨t, h⟩ := hFm.on hb; have hB : Blk v 0 t _ := h; exact ⟨hB.cell 8, hB.cell 9, hB.cell 10, hB.cell 11⟩) hFl
    · rw [opB_in _ nm f t z d (by omega) hnm (r := false) (s := true) (h := false) (by decide) (by decide) (by decide)]
      exact c_OpValid_in 3 (by omega) _ _ _ _ nm f t z d w hn hd hf ht hnm hLy (fun v hb => by obtain ⟨t, h⟩ := hFm.on hb; have hB : Blk v 0 t _ := h; exact ⟨hB.cell 12, hB.cell 13, hB.cell 14, hB.cell 15⟩) hFl
    · rw [opB_in _ nm f t z d (by omega) hnm (r := false) (s := false) (h := false) (by decide) (by decide) (by decide)]
      exact c_OpValid_in 4 (by omega) _ _ _ _ nm f t z d w hn hd hf ht hnm hLy (fun v hb => by obtain ⟨t, h⟩ := hFm.on hb; have hB : Blk v 0 t _ := h; exact ⟨hB.cell 16, hB.cell 17, hB.cell 18, hB.cell 19⟩) hFl
  · have hnm' := Bool.eq_false_iff.2 hnm
    rw [show opB k nm f t z d = false from decide_eq_false fun e => hnm e.2.1]
    exact c_OpValid_nm k nm f t z d w h0 h5 hn hnm'
end Go.Proofs.YtaiemogcboidhaaGreatDoor
