/- FormatReader in both programs. -/
import Derived.Test.YtmfnfheahehpcaaGreatDoorFe
import Derived.Test.YtmfnfheahehpcaaGreatDoorFh
namespace Go.Proofs.YtmfnfheahehpcaaGreatDoor
open Go.ChangeShapes Go.WideShapes Go.ChangeAt Go.RowKit Go.Joins
set_option linter.unusedVariables false
set_option linter.unusedSimpArgs false

theorem t10_bel {v v' : World} {a0 a1 a2 a3 a4 a5 a6 a7 a8 a9 : Addr} {x0 x1 x2 x3 x4 x5 x6 x7 x8 x9 : Value} (hb : Below v.heap.size v v') (h : v.cell? a0 = some x0 ∧ v.cell? a1 = some x1 ∧ v.cell? a2 = some x2 ∧ v.cell? a3 = some x3 ∧ v.cell? a4 = some x4 ∧ v.cell? a5 = some x5 ∧ v.cell? a6 = some x6 ∧ v.cell? a7 = some x7 ∧ v.cell? a8 = some x8 ∧ v.cell? a9 = some x9 ∧ True) : v'.cell? a0 = some x0 ∧ v'.cell? a1 = some x1 ∧ v'.cell? a2 = some x2 ∧ v'.cell? a3 = some x3 ∧ v'.cell? a4 = some x4 ∧ v'.cell? a5 = some x5 ∧ v'.cell? a6 = some x6 ∧ v'.cell? a7 = some x7 ∧ v'.cell? a8 = some x8 ∧ v'.cell? a9 = some x9 ∧ True := ⟨cell_to h.1 hb, cell_to h.2.1 hb, cell_to h.2.2.1 hb, cell_to h.2.2.2.1 hb, cell_to h.2.2.2.2.1 hb, cell_to h.2.2.2.2.2.1 hb, cell_to h.2.2.2.2.2.2.1 hb, cell_to h.2.2.2.2.2.2.2.1 hb, cell_to h.2.2.2.2.2.2.2.2.1 hb, cell_to h.2.2.2.2.2.2.2.2.2.1 hb, trivial⟩
theorem t10_drew {v : World} {a0 a1 a2 a3 a4 a5 a6 a7 a8 a9 : Addr} {x0 x1 x2 x3 x4 x5 x6 x7 x8 x9 : Value} (h : v.cell? a0 = some x0 ∧ v.cell? a1 = some x1 ∧ v.cell? a2 = some x2 ∧ v.cell? a3 = some x3 ∧ v.cell? a4 = some x4 ∧ v.cell? a5 = some x5 ∧ v.cell? a6 = some x6 ∧ v.cell? a7 = some x7 ∧ v.cell? a8 = some x8 ∧ v.cell? a9 = some x9 ∧ True) : v.drew.cell? a0 = some x0 ∧ v.drew.cell? a1 = some x1 ∧ v.drew.cell? a2 = some x2 ∧ v.drew.cell? a3 = some x3 ∧ v.drew.cell? a4 = some x4 ∧ v.drew.cell? a5 = some x5 ∧ v.drew.cell? a6 = some x6 ∧ v.drew.cell? a7 = some x7 ∧ v.drew.cell? a8 = some x8 ∧ v.drew.cell? a9 = some x9 ∧ True := ⟨h.1, h.2.1, h.2.2.1, h.2.2.2.1, h.2.2.2.2.1, h.2.2.2.2.2.1, h.2.2.2.2.2.2.1, h.2.2.2.2.2.2.2.1, h.2.2.2.2.2.2.2.2.1, h.2.2.2.2.2.2.2.2.2.1, trivial⟩
theorem t10_alloc {v : World} {a0 a1 a2 a3 a4 a5 a6 a7 a8 a9 : Addr} {x0 x1 x2 x3 x4 x5 x6 x7 x8 x9 : Value} (h : v.cell? a0 = some x0 ∧ v.cell? a1 = some x1 ∧ v.cell? a2 = some x2 ∧ v.cell? a3 = some x3 ∧ v.cell? a4 = some x4 ∧ v.cell? a5 = some x5 ∧ v.cell? a6 = some x6 ∧ v.cell? a7 = some x7 ∧ v.cell? a8 = some x8 ∧ v.cell? a9 = some x9 ∧ True) (o : Obj) : (v.alloc o).cell? a0 = some x0 ∧ (v.alloc o).cell? a1 = some x1 ∧ (v.alloc o).cell? a2 = some x2 ∧ (v.alloc o).cell? a3 = some x3 ∧ (v.alloc o).cell? a4 = some x4 ∧ (v.alloc o).cell? a5 = some x5 ∧ (v.alloc o).cell? a6 = some x6 ∧ (v.alloc o).cell? a7 = some x7 ∧ (v.alloc o).cell? a8 = some x8 ∧ (v.alloc o).cell? a9 = some x9 ∧ True := ⟨cell_al h.1 o, cell_al h.2.1 o, cell_al h.2.2.1 o, cell_al h.2.2.2.1 o, cell_al h.2.2.2.2.1 o, cell_al h.2.2.2.2.2.1 o, cell_al h.2.2.2.2.2.2.1 o, cell_al h.2.2.2.2.2.2.2.1 o, cell_al h.2.2.2.2.2.2.2.2.1 o, cell_al h.2.2.2.2.2.2.2.2.2.1 o, trivial⟩
/-- the text of a reader -/
def rdT (k : Kn) (B : ByteArray) (s c en : Int) : ByteArray := knT k ++ ⟨#[124]⟩ ++ dashI B ++ ⟨#[124]⟩ ++ str (Lib.itoa s) ++ ⟨#[124]⟩ ++ str (Lib.itoa c) ++ ⟨#[124]⟩ ++ str (Lib.itoa en)
theorem rd_bd {k : Kn} {B : ByteArray} {s c en : Int} (h : rdOk k B s c en = true) : B.size ≤ 32000 ∧ (0 ≤ s ∧ s ≤ 2000) ∧ (0 ≤ c ∧ c ≤ 3100) ∧ (0 ≤ en ∧ en ≤ 3) := by
  simp only [rdOk, Bool.and_eq_true, decide_eq_true_eq] at h
  obtain ⟨h1, ⟨h2, h3, h4, h5⟩, h6⟩ := h
  refine ⟨?_, ⟨h2, h3⟩, ⟨h4, h5⟩, ?_⟩
  · simp only [bitsOk, M.bitsValid, Bool.and_eq_true, decide_eq_true_eq] at h1
    have : B.data.toList.length = B.size := by simp
    omega
  · unfold rvEnd at h6
    by_cases e1 : en = 1
    · omega
    · rw [if_neg e1] at h6
      simp only [Bool.and_eq_true, decide_eq_true_eq] at h6
      omega
theorem knT_size {k : Kn} (hk : k.Ok) : (knT k).size ≤ 30000 := by
  have hbd := kn_bd hk
  have zS : (fmtS k.o k.l k.m).size ≤ 100 := by
    unfold fmtS
    rw [if_pos hk.set]
    obtain ⟨s1, s2, s3⟩ := setOk_iff.1 hk.set
    have d1 := (dec_len k.l (by omega) (by omega)).2
    have d2 := (dec_len k.m (by omega) (by omega)).2
    have d0 : (ordL k.o).length ≤ 4 := by unfold ordL; split <;> simp
    rw [str_size, fmtL]
    simp only [List.length_append, List.length_cons, List.length_nil]
    omega
  have zB : (str (Lib.itoa k.base)).size ≤ 10 := by rw [str_size]; exact itoa_len _ (by omega) (by omega)
  have zL : (str (Lib.itoa k.last)).size ≤ 10 := by rw [str_size]; exact itoa_len _ (by omega) (by omega)
  have zP := fpK_size hk
  have e1 : (⟨#[59]⟩ : ByteArray).size = 1 := rfl
  unfold knT
  simp only [ByteArray.size_append]
  omega

set_option maxHeartbeats 8000000 in
set_option maxRecDepth 100000 in
theorem c_sFormatReader_yes (k : Kn) (A : Option Addr) (cap L : Nat) (B : ByteArray) (s c en : Int) (w : World) (h : PsAt w L A cap k.ps) (hL : L ≤ w.heap.size) (hB : B.size ≤ maxLen) (hw : k.Wf) (hen : -9223372036854775808 ≤ en ∧ en ≤ 9223372036854775807) (hk : k.Ok) (hr : rdOk k B s c en = true) :
    Calls Tryz.prog 52 #[.agg #[.int .i64 k.o, .int .i64 k.l, .int .i64 k.m, .slice A k.ps.length cap, .int .i64 k.base, .int .i64 k.last, .string B, .int .i64 s, .int .i64 c, .int .i64 en]] w fun e w' => e = .returned (.string (rdT k B s c en)) ∧ Below w.heap.size w w' := by
  have hbd := kn_bd hk
  obtain ⟨r1, r2, r3, r4⟩ := rd_bd hr
  have HV := hid (fun (v : World) (hb : Below w.heap.size w v) => (show Calls Tryz.prog 85 #[.agg #[.int .i64 k.o, .int .i64 k.l, .int .i64 k.m, .slice A k.ps.length cap, .int .i64 k.base, .int .i64 k.last, .string B, .int .i64 s, .int .i64 c, .int .i64 en]] v (fun e w' => e = .returned (.bool true) ∧ Below v.heap.size v w') from by
    have e := c_sReaderValid k A cap L B s c en v (h.below hb hL) (by have := hb.size; omega) hB hw hk hen
    rwa [hr] at e))
  have HK1 := hid (fun (v : World) (hb : Below w.heap.size w v) => c_sFormatKnown_yes k A cap L v (h.below hb hL) (by have := hb.size; omega) hk hw)
  have HD1 := hid (fun v => same_belI (c_l3SomeI B v))
  have HS1 := hid (fun (v : World) => c_l9DecN s v (by omega) (by omega))
  have HC1 := hid (fun (v : World) => c_l9DecN c v (by omega) (by omega))
  have HE1 := hid (fun (v : World) => c_l9DecN en v (by omega) (by omega))
  have zK := knT_size hk
  have zD : (dashI B).size ≤ 32000 := dashI_size r1 (by omega)
  have zS : (str (Lib.itoa s)).size ≤ 10 := by rw [str_size]; exact itoa_len _ (by omega) (by omega)
  have zC : (str (Lib.itoa c)).size ≤ 10 := by rw [str_size]; exact itoa_len _ (by omega) (by omega)
  have zE : (str (Lib.itoa en)).size ≤ 10 := by rw [str_size]; exact itoa_len _ (by omega) (by omega)
  unfold rdT
  obtain ⟨K1, hK1⟩ : ∃ K1, K1 = knT k := ⟨_, rfl⟩
  obtain ⟨D1, hD1⟩ : ∃ D1, D1 = dashI B := ⟨_, rfl⟩
  obtain ⟨S1, hS1⟩ : ∃ S1, S1 = str (Lib.itoa s) := ⟨_, rfl⟩
  obtain ⟨C1, hC1⟩ : ∃ C1, C1 = str (Lib.itoa c) := ⟨_, rfl⟩
  obtain ⟨E1, hE1⟩ : ∃ E1, E1 = str (Lib.itoa en) := ⟨_, rfl⟩
  rw [← hK1] at HK1 zK ⊢
  rw [← hD1] at HD1 zD ⊢
  rw [← hS1] at HS1 zS ⊢
  rw [← hC1] at HC1 zC ⊢
  rw [← hE1] at HE1 zE ⊢
  obtain ⟨N, hN⟩ : ∃ N, N = k.ps.length := ⟨_, rfl⟩
  rw [← hN] at HV HK1 ⊢
  obtain ⟨o, ho⟩ : ∃ o, o = k.o := ⟨_, rfl⟩
  obtain ⟨ll, hl⟩ : ∃ ll, ll = k.l := ⟨_, rfl⟩
  obtain ⟨m, hm⟩ : ∃ m, m = k.m := ⟨_, rfl⟩
  obtain ⟨bs, hbs⟩ : ∃ bs, bs = k.base := ⟨_, rfl⟩
  obtain ⟨la, hla⟩ : ∃ la, la = k.last := ⟨_, rfl⟩
  rw [← ho, ← hl, ← hm, ← hbs, ← hla] at HV HK1 ⊢
  have e1 : (⟨#[124]⟩ : ByteArray).size = 1 := rfl
  have a0 : ∀ W, (Op.stringOp .add (K1) ⟨#[124]⟩).run Tryz.prog W = .ok (.string (K1 ++ ⟨#[124]⟩)) W := fun W => run_string_add W _ _ (by omega) (by omega)
  have a1 : ∀ W, (Op.stringOp .add (K1 ++ ⟨#[124]⟩) D1).run Tryz.prog W = .ok (.string (K1 ++ ⟨#[124]⟩ ++ D1)) W := fun W => run_string_add W _ _ (by simp only [ByteArray.size_append]; omega) (by omega)
  have a2 : ∀ W, (Op.stringOp .add (K1 ++ ⟨#[124]⟩ ++ D1) ⟨#[124]⟩).run Tryz.prog W = .ok (.string (K1 ++ ⟨#[124]⟩ ++ D1 ++ ⟨#[124]⟩)) W := fun W => run_string_add W _ _ (by simp only [ByteArray.size_append]; omega) (by omega)
  have a3 : ∀ W, (Op.stringOp .add (K1 ++ ⟨#[124]⟩ ++ D1 ++ ⟨#[124]⟩) S1).run Tryz.prog W = .ok (.string (K1 ++ ⟨#[124]⟩ ++ D1 ++ ⟨#[124]⟩ ++ S1)) W := fun W => run_string_add W _ _ (by simp only [ByteArray.size_append]; omega) (by omega)
  have a4 : ∀ W, (Op.stringOp .add (K1 ++ ⟨#[124]⟩ ++ D1 ++ ⟨#[124]⟩ ++ S1) ⟨#[124]⟩).run Tryz.prog W = .ok (.string (K1 ++ ⟨#[124]⟩ ++ D1 ++ ⟨#[124]⟩ ++ S1 ++ ⟨#[124]⟩)) W := fun W => run_string_add W _ _ (by simp only [ByteArray.size_append]; omega) (by omega)
  have a5 : ∀ W, (Op.stringOp .add (K1 ++ ⟨#[124]⟩ ++ D1 ++ ⟨#[124]⟩ ++ S1 ++ ⟨#[124]⟩) C1).run Tryz.prog W = .ok (.string (K1 ++ ⟨#[124]⟩ ++ D1 ++ ⟨#[124]⟩ ++ S1 ++ ⟨#[124]⟩ ++ C1)) W := fun W => run_string_add W _ _ (by simp only [ByteArray.size_append]; omega) (by omega)
  have a6 : ∀ W, (Op.stringOp .add (K1 ++ ⟨#[124]⟩ ++ D1 ++ ⟨#[124]⟩ ++ S1 ++ ⟨#[124]⟩ ++ C1) ⟨#[124]⟩).run Tryz.prog W = .ok (.string (K1 ++ ⟨#[124]⟩ ++ D1 ++ ⟨#[124]⟩ ++ S1 ++ ⟨#[124]⟩ ++ C1 ++ ⟨#[124]⟩)) W := fun W => run_string_add W _ _ (by simp only [ByteArray.size_append]; omega) (by omega)
  have a7 : ∀ W, (Op.stringOp .add (K1 ++ ⟨#[124]⟩ ++ D1 ++ ⟨#[124]⟩ ++ S1 ++ ⟨#[124]⟩ ++ C1 ++ ⟨#[124]⟩) E1).run Tryz.prog W = .ok (.string (K1 ++ ⟨#[124]⟩ ++ D1 ++ ⟨#[124]⟩ ++ S1 ++ ⟨#[124]⟩ ++ C1 ++ ⟨#[124]⟩ ++ E1)) W := fun W => run_string_add W _ _ (by simp only [ByteArray.size_append]; omega) (by omega)
  clear hK1 hD1 hS1 hC1 hE1 hN h hk hw hbd ho hl hm hbs hla hr r1 r2 r3 r4
  have hB0 : Below w.heap.size w (w.alloc (.cells #[.int .i64 o, .int .i64 ll, .int .i64 m, .slice A N cap, .int .i64 bs, .int .i64 la, .string B, .int .i64 s, .int .i64 c, .int .i64 en] 39)) := bel_alloc (Below.refl _ w) _
  have kS := Blk.new w 39 #[.int .i64 o, .int .i64 ll, .int .i64 m, .slice A N cap, .int .i64 bs, .int .i64 la, .string B, .int .i64 s, .int .i64 c, .int .i64 en]
  obtain ⟨p0, p1, p2, p3, p4, p5, p6, p7, p8, p9⟩ := kS.cells10
  have KS := hid kS
  clear kS
  go_enter Tryz.func52, Tryz.ntmps52
  go_wp2_with fail
  refine (HV.out _ hB0).mono ?_
  rintro e w1 ⟨rfl, hb1⟩
  have kS1 := KS.out.on hb1
  have hB1 := hB0.trans (hb1.mono hB0.size)
  have hS : w1.cell? ⟨w.heap.size, 0, none⟩ = some (.int .i64 o) ∧ w1.cell? ⟨w.heap.size, 1, none⟩ = some (.int .i64 ll) ∧ w1.cell? ⟨w.heap.size, 2, none⟩ = some (.int .i64 m) ∧ w1.cell? ⟨w.heap.size, 3, none⟩ = some (.slice A N cap) ∧ w1.cell? ⟨w.heap.size, 4, none⟩ = some (.int .i64 bs) ∧ w1.cell? ⟨w.heap.size, 5, none⟩ = some (.int .i64 la) ∧ w1.cell? ⟨w.heap.size, 6, none⟩ = some (.string B) ∧ w1.cell? ⟨w.heap.size, 7, none⟩ = some (.int .i64 s) ∧ w1.cell? ⟨w.heap.size, 8, none⟩ = some (.int .i64 c) ∧ w1.cell? ⟨w.heap.size, 9, none⟩ = some (.int .i64 en) ∧ Below w1.heap.size w1 w1 := ⟨kS1.cell 0, kS1.cell 1, kS1.cell 2, kS1.cell 3, kS1.cell 4, kS1.cell 5, kS1.cell 6, kS1.cell 7, kS1.cell 8, kS1.cell 9, Below.refl _ _⟩
  clear p0 p1 p2 p3 p4 p5 p6 p7 p8 p9 KS kS1 hb1 hB0
  have HK2 := hid (fun (v : World) (hb : Below w1.heap.size w1 v) => HK1.out v (hB1.trans (hb.mono hB1.size)))
  go_wp2_with fail
  refine qB (S := (fun v => v.cell? ⟨w.heap.size, 0, none⟩ = some (.int .i64 o) ∧ v.cell? ⟨w.heap.size, 1, none⟩ = some (.int .i64 ll) ∧ v.cell? ⟨w.heap.size, 2, none⟩ = some (.int .i64 m) ∧ v.cell? ⟨w.heap.size, 3, none⟩ = some (.slice A N cap) ∧ v.cell? ⟨w.heap.size, 4, none⟩ = some (.int .i64 bs) ∧ v.cell? ⟨w.heap.size, 5, none⟩ = some (.int .i64 la) ∧ v.cell? ⟨w.heap.size, 6, none⟩ = some (.string B) ∧ v.cell? ⟨w.heap.size, 7, none⟩ = some (.int .i64 s) ∧ v.cell? ⟨w.heap.size, 8, none⟩ = some (.int .i64 c) ∧ v.cell? ⟨w.heap.size, 9, none⟩ = some (.int .i64 en) ∧ Below w1.heap.size w1 v)) (by kernel_rfl) (by kernel_rfl) (s10_drew hS) ?_
  refine qK ?_
  refine qK ?_
  refine qC (fun wq hSq => HK2.out wq hSq.2.2.2.2.2.2.2.2.2.2) (fun wq wr hbr hSq => s10_bel hbr hSq) ?_
  refine qK ?_
  refine qK ?_
  refine qK ?_
  refine qC (fun wq hSq => HD1.out wq) (fun wq wr hbr hSq => s10_bel hbr hSq) ?_
  refine qK ?_
  refine qK ?_
  refine qK ?_
  refine qK ?_
  refine qC (fun wq hSq => HS1.out wq) (fun wq wr hbr hSq => s10_bel hbr hSq) ?_
  refine qK ?_
  refine qK ?_
  refine qK ?_
  refine qK ?_
  refine qC (fun wq hSq => HC1.out wq) (fun wq wr hbr hSq => s10_bel hbr hSq) ?_
  refine qK ?_
  refine qK ?_
  refine qK ?_
  refine qK ?_
  refine qC (fun wq hSq => HE1.out wq) (fun wq wr hbr hSq => s10_bel hbr hSq) ?_
  refine qK ?_
  refine qK ?_
  refine qN ?_
  intro wq hSq
  (try dsimp only at hSq)
  have hbq := hB1.trans (hSq.2.2.2.2.2.2.2.2.2.2.mono hB1.size)
  clear hSq hS
  go_wp2_with fail
  go_ret
  exact ⟨rfl, hbq⟩

theorem rd_join (x y z u v : ByteArray) : (⟨(Lib.join ([x, y, z, u, v].map (·.data.toList)) [124]).toArray⟩ : ByteArray) = x ++ ⟨#[124]⟩ ++ y ++ ⟨#[124]⟩ ++ z ++ ⟨#[124]⟩ ++ u ++ ⟨#[124]⟩ ++ v := by
  have e : Lib.join ([x, y, z, u, v].map (·.data.toList)) [124] = x.data.toList ++ [124] ++ y.data.toList ++ [124] ++ z.data.toList ++ [124] ++ u.data.toList ++ [124] ++ v.data.toList := by
    simp [Lib.join, List.intercalate]
  rw [e]
  show str _ = _
  rw [← str_append, ← str_append, ← str_append, ← str_append, ← str_append, ← str_append, ← str_append, ← str_append, str_self, str_self, str_self, str_self, str_self]
  rfl

set_option maxHeartbeats 8000000 in
set_option maxRecDepth 100000 in
theorem c_FormatReader_yes (k : Kn) (A : Option Addr) (cap L : Nat) (B : ByteArray) (s c en : Int) (w : World) (h : PsAt w L A cap k.ps) (hL : L ≤ w.heap.size) (hB : B.size ≤ maxLen) (hw : k.Wf) (hen : -9223372036854775808 ≤ en ∧ en ≤ 9223372036854775807) (hk : k.Ok) (hr : rdOk k B s c en = true) (hTab : TabN w) :
    Calls Tryz.prog 54 #[.agg #[.int .i64 k.o, .int .i64 k.l, .int .i64 k.m, .slice A k.ps.length cap, .int .i64 k.base, .int .i64 k.last, .string B, .int .i64 s, .int .i64 c, .int .i64 en]] w fun e w' => e = .returned (.string (rdT k B s c en)) ∧ Below w.heap.size w w' := by
  have hbd := kn_bd hk
  obtain ⟨r1, r2, r3, r4⟩ := rd_bd hr
  have HV := hid (fun (v : World) (hb : Below w.heap.size w v) => (show Calls Tryz.prog 86 #[.agg #[.int .i64 k.o, .int .i64 k.l, .int .i64 k.m, .slice A k.ps.length cap, .int .i64 k.base, .int .i64 k.last, .string B, .int .i64 s, .int .i64 c, .int .i64 en]] v (fun e w' => e = .returned (.bool true) ∧ Below v.heap.size v w') from by
    have e := c_ReaderValid k A cap L B s c en v (h.below hb hL) (by have := hb.size; omega) hB hw hk
    rwa [hr] at e))
  have HK1 := hid (fun (v : World) (hb : Below w.heap.size w v) => c_FormatKnown_yes k A cap L v (h.below hb hL) (by have := hb.size; omega) hk hw (hTab.on hb))
  have HD1 := hid (fun (v : World) (hb : Below w.heap.size w v) => same_belI (c_dashIfEmptyI B v))
  have HS1 := hid (fun (v : World) (hb : Below w.heap.size w v) => c_itoaN s v (by omega) (by omega) (hTab.on hb))
  have HC1 := hid (fun (v : World) (hb : Below w.heap.size w v) => c_itoaN c v (by omega) (by omega) (hTab.on hb))
  have HE1 := hid (fun (v : World) (hb : Below w.heap.size w v) => c_itoaN en v (by omega) (by omega) (hTab.on hb))
  have zK := knT_size hk
  have zD : (dashI B).size ≤ 32000 := dashI_size r1 (by omega)
  have zS : (str (Lib.itoa s)).size ≤ 10 := by rw [str_size]; exact itoa_len _ (by omega) (by omega)
  have zC : (str (Lib.itoa c)).size ≤ 10 := by rw [str_size]; exact itoa_len _ (by omega) (by omega)
  have zE : (str (Lib.itoa en)).size ≤ 10 := by rw [str_size]; exact itoa_len _ (by omega) (by omega)
  unfold rdT
  obtain ⟨K1, hK1⟩ : ∃ K1, K1 = knT k := ⟨_, rfl⟩
  obtain ⟨D1, hD1⟩ : ∃ D1, D1 = dashI B := ⟨_, rfl⟩
  obtain ⟨S1, hS1⟩ : ∃ S1, S1 = str (Lib.itoa s) := ⟨_, rfl⟩
  obtain ⟨C1, hC1⟩ : ∃ C1, C1 = str (Lib.itoa c) := ⟨_, rfl⟩
  obtain ⟨E1, hE1⟩ : ∃ E1, E1 = str (Lib.itoa en) := ⟨_, rfl⟩
  rw [← hK1] at HK1 zK ⊢
  rw [← hD1] at HD1 zD ⊢
  rw [← hS1] at HS1 zS ⊢
  rw [← hC1] at HC1 zC ⊢
  rw [← hE1] at HE1 zE ⊢
  obtain ⟨N, hN⟩ : ∃ N, N = k.ps.length := ⟨_, rfl⟩
  rw [← hN] at HV HK1 ⊢
  obtain ⟨o, ho⟩ : ∃ o, o = k.o := ⟨_, rfl⟩
  obtain ⟨ll, hl⟩ : ∃ ll, ll = k.l := ⟨_, rfl⟩
  obtain ⟨m, hm⟩ : ∃ m, m = k.m := ⟨_, rfl⟩
  obtain ⟨bs, hbs⟩ : ∃ bs, bs = k.base := ⟨_, rfl⟩
  obtain ⟨la, hla⟩ : ∃ la, la = k.last := ⟨_, rfl⟩
  rw [← ho, ← hl, ← hm, ← hbs, ← hla] at HV HK1 ⊢
  have hJl : (Lib.join ([K1, D1, S1, C1, E1].map (·.data.toList)) [124]).length ≤ 140737488355328 := by
    have e : (Lib.join ([K1, D1, S1, C1, E1].map (·.data.toList)) [124]).length = K1.size + 1 + D1.size + 1 + S1.size + 1 + C1.size + 1 + E1.size := by
      simp [Lib.join, List.intercalate]; omega
    omega
  rw [← rd_join]
  obtain ⟨J, hJ⟩ : ∃ J, J = (⟨(Lib.join ([K1, D1, S1, C1, E1].map (·.data.toList)) [124]).toArray⟩ : ByteArray) := ⟨_, rfl⟩
  rw [← hJ]
  have HJ := hid (fun (v : World) => show Calls Tryz.prog 27 #[.slice (some ⟨v.heap.size, 0, none⟩) 5 5, .string ⟨#[124]⟩] (v.alloc (.cells #[.string K1, .string D1, .string S1, .string C1, .string E1] 9)) (fun e w' => e = .returned (.string J) ∧ Below (v.alloc (.cells #[.string K1, .string D1, .string S1, .string C1, .string E1] 9)).heap.size (v.alloc (.cells #[.string K1, .string D1, .string S1, .string C1, .string E1] 9)) w') from by
    rw [hJ]
    refine Tryz.strings_Join v.heap.size 0 5 [K1, D1, S1, C1, E1] ⟨#[124]⟩ _ (fun j x hj => ?_) (by rw [World.size_alloc]; omega) (by simp) (by simp) hJl
    have hN := Blk.new v 9 #[.string K1, .string D1, .string S1, .string C1, .string E1]
    rw [Nat.zero_add]
    refine (hN.cell j).trans ?_
    match j, hj with
    | 0, hj => simp at hj; subst hj; rfl
    | 1, hj => simp at hj; subst hj; rfl
    | 2, hj => simp at hj; subst hj; rfl
    | 3, hj => simp at hj; subst hj; rfl
    | 4, hj => simp at hj; subst hj; rfl)
  clear hK1 hD1 hS1 hC1 hE1 hN h hk hw hbd ho hl hm hbs hla hr r1 r2 r3 r4 hJl hJ hTab zK zD zS zC zE
  have hB0 : Below w.heap.size w (w.alloc (.cells #[.int .i64 o, .int .i64 ll, .int .i64 m, .slice A N cap, .int .i64 bs, .int .i64 la, .string B, .int .i64 s, .int .i64 c, .int .i64 en] 39)) := bel_alloc (Below.refl _ w) _
  have kS := Blk.new w 39 #[.int .i64 o, .int .i64 ll, .int .i64 m, .slice A N cap, .int .i64 bs, .int .i64 la, .string B, .int .i64 s, .int .i64 c, .int .i64 en]
  obtain ⟨p0, p1, p2, p3, p4, p5, p6, p7, p8, p9⟩ := kS.cells10
  have KS := hid kS
  clear kS
  go_enter Tryz.func54, Tryz.ntmps54
  go_wp2_with fail
  refine (HV.out _ hB0).mono ?_
  rintro e w1 ⟨rfl, hb1⟩
  have kS1 := KS.out.on hb1
  have hB1w := hB0.trans (hb1.mono hB0.size)
  clear p0 p1 p2 p3 p4 p5 p6 p7 p8 p9 KS hb1 hB0
  have hS : w1.cell? ⟨w.heap.size, 0, none⟩ = some (.int .i64 o) ∧ w1.cell? ⟨w.heap.size, 1, none⟩ = some (.int .i64 ll) ∧ w1.cell? ⟨w.heap.size, 2, none⟩ = some (.int .i64 m) ∧ w1.cell? ⟨w.heap.size, 3, none⟩ = some (.slice A N cap) ∧ w1.cell? ⟨w.heap.size, 4, none⟩ = some (.int .i64 bs) ∧ w1.cell? ⟨w.heap.size, 5, none⟩ = some (.int .i64 la) ∧ w1.cell? ⟨w.heap.size, 6, none⟩ = some (.string B) ∧ w1.cell? ⟨w.heap.size, 7, none⟩ = some (.int .i64 s) ∧ w1.cell? ⟨w.heap.size, 8, none⟩ = some (.int .i64 c) ∧ w1.cell? ⟨w.heap.size, 9, none⟩ = some (.int .i64 en) ∧ True := ⟨kS1.cell 0, kS1.cell 1, kS1.cell 2, kS1.cell 3, kS1.cell 4, kS1.cell 5, kS1.cell 6, kS1.cell 7, kS1.cell 8, kS1.cell 9, trivial⟩
  go_wp2_with fail
  have HB := hid (hB1w.drew)
  have HK := hid (kS1.on (bel_drew (Below.refl _ w1)))
  clear kS1 hB1w
  refine wp_region_noPanic ?_
  refine wp_region_held_drew (S := (fun v => v.cell? ⟨w.heap.size, 0, none⟩ = some (.int .i64 o) ∧ v.cell? ⟨w.heap.size, 1, none⟩ = some (.int .i64 ll) ∧ v.cell? ⟨w.heap.size, 2, none⟩ = some (.int .i64 m) ∧ v.cell? ⟨w.heap.size, 3, none⟩ = some (.slice A N cap) ∧ v.cell? ⟨w.heap.size, 4, none⟩ = some (.int .i64 bs) ∧ v.cell? ⟨w.heap.size, 5, none⟩ = some (.int .i64 la) ∧ v.cell? ⟨w.heap.size, 6, none⟩ = some (.string B) ∧ v.cell? ⟨w.heap.size, 7, none⟩ = some (.int .i64 s) ∧ v.cell? ⟨w.heap.size, 8, none⟩ = some (.int .i64 c) ∧ v.cell? ⟨w.heap.size, 9, none⟩ = some (.int .i64 en) ∧ True)) (by kernel_rfl) (t10_drew hS) (fun hHeld => ?_)
  refine tk 0 ?_
  refine tk 1 ?_
  refine tk 3 ?_
  refine tk 4 ?_
  refine tk 6 ?_
  refine tk 7 ?_
  refine tk 9 ?_
  refine tk 10 ?_
  refine tk 12 ?_
  refine tk 13 ?_
  refine wpAnyH_ready (rs := [2]) (by kernel_rfl) (by simp) ?_
  refine AllReadyH.cons (o := ?or1_2) ?ir1_2 (fun K hK => ?sr1_2) AllReadyH.nil
  case ir1_2 => (simp only [List.getElem?_toArray, List.getElem?_cons_succ, List.getElem?_cons_zero]; rfl)
  (go_simp; (go_at_call 7; refine (HK1.out _ HB.out).mono ?_; rintro e wA ⟨rfl, hbX⟩; replace HK := hid (HK.out.on hbX); replace HB := hid (HB.out.trans (hbX.mono HB.out.size)); clear hbX; have twA : wA.cell? ⟨w.heap.size, 0, none⟩ = some (.int .i64 o) ∧ wA.cell? ⟨w.heap.size, 1, none⟩ = some (.int .i64 ll) ∧ wA.cell? ⟨w.heap.size, 2, none⟩ = some (.int .i64 m) ∧ wA.cell? ⟨w.heap.size, 3, none⟩ = some (.slice A N cap) ∧ wA.cell? ⟨w.heap.size, 4, none⟩ = some (.int .i64 bs) ∧ wA.cell? ⟨w.heap.size, 5, none⟩ = some (.int .i64 la) ∧ wA.cell? ⟨w.heap.size, 6, none⟩ = some (.string B) ∧ wA.cell? ⟨w.heap.size, 7, none⟩ = some (.int .i64 s) ∧ wA.cell? ⟨w.heap.size, 8, none⟩ = some (.int .i64 c) ∧ wA.cell? ⟨w.heap.size, 9, none⟩ = some (.int .i64 en) ∧ True := ⟨HK.out.cell 0, HK.out.cell 1, HK.out.cell 2, HK.out.cell 3, HK.out.cell 4, HK.out.cell 5, HK.out.cell 6, HK.out.cell 7, HK.out.cell 8, HK.out.cell 9, trivial⟩))
  refine hK.out _ _ ?kr1_2 (fun hHeld => ?_)
  case kr1_2 => (try dsimp only); (first | with_reducible assumption | exact t10_bel (by assumption) (by assumption) | assumption | exact t10_alloc (by assumption) _)
  clear hK K
  try simp only [Act.put, List.setIfInBounds_toArray, List.set_cons_zero, List.set_cons_succ]
  refine wpAnyH_ready (rs := [5]) (by kernel_rfl) (by simp) ?_
  refine AllReadyH.cons (o := ?or1_5) ?ir1_5 (fun K hK => ?sr1_5) AllReadyH.nil
  case ir1_5 => (simp only [List.getElem?_toArray, List.getElem?_cons_succ, List.getElem?_cons_zero]; rfl)
  (go_simp; (go_at_call 58; refine (HD1.out _ HB.out).mono ?_; rintro e wB ⟨rfl, hbX⟩; replace HK := hid (HK.out.on hbX); replace HB := hid (HB.out.trans (hbX.mono HB.out.size)); clear hbX; have twB : wB.cell? ⟨w.heap.size, 0, none⟩ = some (.int .i64 o) ∧ wB.cell? ⟨w.heap.size, 1, none⟩ = some (.int .i64 ll) ∧ wB.cell? ⟨w.heap.size, 2, none⟩ = some (.int .i64 m) ∧ wB.cell? ⟨w.heap.size, 3, none⟩ = some (.slice A N cap) ∧ wB.cell? ⟨w.heap.size, 4, none⟩ = some (.int .i64 bs) ∧ wB.cell? ⟨w.heap.size, 5, none⟩ = some (.int .i64 la) ∧ wB.cell? ⟨w.heap.size, 6, none⟩ = some (.string B) ∧ wB.cell? ⟨w.heap.size, 7, none⟩ = some (.int .i64 s) ∧ wB.cell? ⟨w.heap.size, 8, none⟩ = some (.int .i64 c) ∧ wB.cell? ⟨w.heap.size, 9, none⟩ = some (.int .i64 en) ∧ True := ⟨HK.out.cell 0, HK.out.cell 1, HK.out.cell 2, HK.out.cell 3, HK.out.cell 4, HK.out.cell 5, HK.out.cell 6, HK.out.cell 7, HK.out.cell 8, HK.out.cell 9, trivial⟩))
  refine hK.out _ _ ?kr1_5 (fun hHeld => ?_)
  case kr1_5 => (try dsimp only); (first | with_reducible assumption | exact t10_bel (by assumption) (by assumption) | assumption | exact t10_alloc (by assumption) _)
  clear hK K
  try simp only [Act.put, List.setIfInBounds_toArray, List.set_cons_zero, List.set_cons_succ]
  refine wpAnyH_ready (rs := [8]) (by kernel_rfl) (by simp) ?_
  refine AllReadyH.cons (o := ?or1_8) ?ir1_8 (fun K hK => ?sr1_8) AllReadyH.nil
  case ir1_8 => (simp only [List.getElem?_toArray, List.getElem?_cons_succ, List.getElem?_cons_zero]; rfl)
  (go_simp; (go_at_call 25; refine (HS1.out _ HB.out).mono ?_; rintro e wC ⟨rfl, hbX⟩; replace HK := hid (HK.out.on hbX); replace HB := hid (HB.out.trans (hbX.mono HB.out.size)); clear hbX; have twC : wC.cell? ⟨w.heap.size, 0, none⟩ = some (.int .i64 o) ∧ wC.cell? ⟨w.heap.size, 1, none⟩ = some (.int .i64 ll) ∧ wC.cell? ⟨w.heap.size, 2, none⟩ = some (.int .i64 m) ∧ wC.cell? ⟨w.heap.size, 3, none⟩ = some (.slice A N cap) ∧ wC.cell? ⟨w.heap.size, 4, none⟩ = some (.int .i64 bs) ∧ wC.cell? ⟨w.heap.size, 5, none⟩ = some (.int .i64 la) ∧ wC.cell? ⟨w.heap.size, 6, none⟩ = some (.string B) ∧ wC.cell? ⟨w.heap.size, 7, none⟩ = some (.int .i64 s) ∧ wC.cell? ⟨w.heap.size, 8, none⟩ = some (.int .i64 c) ∧ wC.cell? ⟨w.heap.size, 9, none⟩ = some (.int .i64 en) ∧ True := ⟨HK.out.cell 0, HK.out.cell 1, HK.out.cell 2, HK.out.cell 3, HK.out.cell 4, HK.out.cell 5, HK.out.cell 6, HK.out.cell 7, HK.out.cell 8, HK.out.cell 9, trivial⟩))
  refine hK.out _ _ ?kr1_8 (fun hHeld => ?_)
  case kr1_8 => (try dsimp only); (first | with_reducible assumption | exact t10_bel (by assumption) (by assumption) | assumption | exact t10_alloc (by assumption) _)
  clear hK K
  try simp only [Act.put, List.setIfInBounds_toArray, List.set_cons_zero, List.set_cons_succ]
  refine wpAnyH_ready (rs := [11]) (by kernel_rfl) (by simp) ?_
  refine AllReadyH.cons (o := ?or1_11) ?ir1_11 (fun K hK => ?sr1_11) AllReadyH.nil
  case ir1_11 => (simp only [List.getElem?_toArray, List.getElem?_cons_succ, List.getElem?_cons_zero]; rfl)
  (go_simp; (go_at_call 25; refine (HC1.out _ HB.out).mono ?_; rintro e wD ⟨rfl, hbX⟩; replace HK := hid (HK.out.on hbX); replace HB := hid (HB.out.trans (hbX.mono HB.out.size)); clear hbX; have twD : wD.cell? ⟨w.heap.size, 0, none⟩ = some (.int .i64 o) ∧ wD.cell? ⟨w.heap.size, 1, none⟩ = some (.int .i64 ll) ∧ wD.cell? ⟨w.heap.size, 2, none⟩ = some (.int .i64 m) ∧ wD.cell? ⟨w.heap.size, 3, none⟩ = some (.slice A N cap) ∧ wD.cell? ⟨w.heap.size, 4, none⟩ = some (.int .i64 bs) ∧ wD.cell? ⟨w.heap.size, 5, none⟩ = some (.int .i64 la) ∧ wD.cell? ⟨w.heap.size, 6, none⟩ = some (.string B) ∧ wD.cell? ⟨w.heap.size, 7, none⟩ = some (.int .i64 s) ∧ wD.cell? ⟨w.heap.size, 8, none⟩ = some (.int .i64 c) ∧ wD.cell? ⟨w.heap.size, 9, none⟩ = some (.int .i64 en) ∧ True := ⟨HK.out.cell 0, HK.out.cell 1, HK.out.cell 2, HK.out.cell 3, HK.out.cell 4, HK.out.cell 5, HK.out.cell 6, HK.out.cell 7, HK.out.cell 8, HK.out.cell 9, trivial⟩))
  refine hK.out _ _ ?kr1_11 (fun hHeld => ?_)
  case kr1_11 => (try dsimp only); (first | with_reducible assumption | exact t10_bel (by assumption) (by assumption) | assumption | exact t10_alloc (by assumption) _)
  clear hK K
  try simp only [Act.put, List.setIfInBounds_toArray, List.set_cons_zero, List.set_cons_succ]
  refine wpAnyH_ready (rs := [14]) (by kernel_rfl) (by simp) ?_
  refine AllReadyH.cons (o := ?or1_14) ?ir1_14 (fun K hK => ?sr1_14) AllReadyH.nil
  case ir1_14 => (simp only [List.getElem?_toArray, List.getElem?_cons_succ, List.getElem?_cons_zero]; rfl)
  (go_simp; (go_at_call 25; refine (HE1.out _ HB.out).mono ?_; rintro e wE ⟨rfl, hbX⟩; replace HK := hid (HK.out.on hbX); replace HB := hid (HB.out.trans (hbX.mono HB.out.size)); clear hbX; have twE : wE.cell? ⟨w.heap.size, 0, none⟩ = some (.int .i64 o) ∧ wE.cell? ⟨w.heap.size, 1, none⟩ = some (.int .i64 ll) ∧ wE.cell? ⟨w.heap.size, 2, none⟩ = some (.int .i64 m) ∧ wE.cell? ⟨w.heap.size, 3, none⟩ = some (.slice A N cap) ∧ wE.cell? ⟨w.heap.size, 4, none⟩ = some (.int .i64 bs) ∧ wE.cell? ⟨w.heap.size, 5, none⟩ = some (.int .i64 la) ∧ wE.cell? ⟨w.heap.size, 6, none⟩ = some (.string B) ∧ wE.cell? ⟨w.heap.size, 7, none⟩ = some (.int .i64 s) ∧ wE.cell? ⟨w.heap.size, 8, none⟩ = some (.int .i64 c) ∧ wE.cell? ⟨w.heap.size, 9, none⟩ = some (.int .i64 en) ∧ True := ⟨HK.out.cell 0, HK.out.cell 1, HK.out.cell 2, HK.out.cell 3, HK.out.cell 4, HK.out.cell 5, HK.out.cell 6, HK.out.cell 7, HK.out.cell 8, HK.out.cell 9, trivial⟩))
  refine hK.out _ _ ?kr1_14 (fun hHeld => ?_)
  case kr1_14 => (try dsimp only); (first | with_reducible assumption | exact t10_bel (by assumption) (by assumption) | assumption | exact t10_alloc (by assumption) _)
  clear hK K
  try simp only [Act.put, List.setIfInBounds_toArray, List.set_cons_zero, List.set_cons_succ]
  refine wpAnyH_ready (rs := [15]) (by kernel_rfl) (by simp) ?_
  refine AllReadyH.cons (o := ?or1_15) ?ir1_15 (fun K hK => ?sr1_15) AllReadyH.nil
  case ir1_15 => (simp only [List.getElem?_toArray, List.getElem?_cons_succ, List.getElem?_cons_zero]; rfl)
  ((go_simp))
  refine hK.out _ _ ?kr1_15 (fun hHeld => ?_)
  case kr1_15 => (try dsimp only); (first | with_reducible assumption | exact t10_bel (by assumption) (by assumption) | assumption | exact t10_alloc (by assumption) _)
  clear hK K
  try simp only [Act.put, List.setIfInBounds_toArray, List.set_cons_zero, List.set_cons_succ]
  refine tk 16 ?_
  refine wpAnyH_done (by kernel_rfl) ?_ _
  refine NoPanic.normal ?_
  all_goals
    have hB9 := bel_alloc HB.out (.cells #[.string K1, .string D1, .string S1, .string C1, .string E1] 9)
    clear HK
    go_wp2_with fail
    refine (HJ.out _).mono ?_
    rintro e w9 ⟨rfl, hb9⟩
    go_wp2_with fail
    go_ret
    exact ⟨rfl, hB9.trans (hb9.mono hB9.size)⟩

theorem c_FormatReader_no (k : Kn) (A : Option Addr) (cap L : Nat) (B : ByteArray) (s c en : Int) (w : World) (h : PsAt w L A cap k.ps) (hL : L ≤ w.heap.size) (hB : B.size ≤ maxLen) (hw : k.Wf) (hen : -9223372036854775808 ≤ en ∧ en ≤ 9223372036854775807) (hr : ¬ (k.Ok ∧ rdOk k B s c en = true)) :
    Calls Tryz.prog 54 #[.agg #[.int .i64 k.o, .int .i64 k.l, .int .i64 k.m, .slice A k.ps.length cap, .int .i64 k.base, .int .i64 k.last, .string B, .int .i64 s, .int .i64 c, .int .i64 en]] w fun e w' => e = .returned (.string ByteArray.empty) ∧ Below w.heap.size w w' := by
  have HV := hid (fun (v : World) (hb : Below w.heap.size w v) => (show Calls Tryz.prog 86 #[.agg #[.int .i64 k.o, .int .i64 k.l, .int .i64 k.m, .slice A k.ps.length cap, .int .i64 k.base, .int .i64 k.last, .string B, .int .i64 s, .int .i64 c, .int .i64 en]] v (fun e w' => e = .returned (.bool false) ∧ Below v.heap.size v w') from by
    by_cases hk : k.Ok
    · have e := c_ReaderValid k A cap L B s c en v (h.below hb hL) (by have := hb.size; omega) hB hw hk
      rwa [show rdOk k B s c en = false from Bool.eq_false_iff.2 (fun h9 => hr ⟨hk, h9⟩)] at e
    · exact c_ReaderValid_bad k A cap L B s c en v (h.below hb hL) (by have := hb.size; omega) hB hw hk))
  have hB0 : Below w.heap.size w (w.alloc (.cells #[.int .i64 k.o, .int .i64 k.l, .int .i64 k.m, .slice A k.ps.length cap, .int .i64 k.base, .int .i64 k.last, .string B, .int .i64 s, .int .i64 c, .int .i64 en] 39)) := bel_alloc (Below.refl _ w) _
  obtain ⟨p0, p1, p2, p3, p4, p5, p6, p7, p8, p9⟩ := (Blk.new w 39 #[.int .i64 k.o, .int .i64 k.l, .int .i64 k.m, .slice A k.ps.length cap, .int .i64 k.base, .int .i64 k.last, .string B, .int .i64 s, .int .i64 c, .int .i64 en]).cells10
  clear h hr hw
  go_enter Tryz.func54, Tryz.ntmps54
  go_wp2_with fail
  refine (HV.out _ hB0).mono ?_
  rintro e w1 ⟨rfl, hb1⟩
  go_wp2_with fail
  go_ret
  exact ⟨rfl, hB0.trans (hb1.mono hB0.size)⟩

theorem c_sFormatReader_no (k : Kn) (A : Option Addr) (cap L : Nat) (B : ByteArray) (s c en : Int) (w : World) (h : PsAt w L A cap k.ps) (hL : L ≤ w.heap.size) (hB : B.size ≤ maxLen) (hw : k.Wf) (hen : -9223372036854775808 ≤ en ∧ en ≤ 9223372036854775807) (hr : ¬ (k.Ok ∧ rdOk k B s c en = true)) :
    Calls Tryz.prog 52 #[.agg #[.int .i64 k.o, .int .i64 k.l, .int .i64 k.m, .slice A k.ps.length cap, .int .i64 k.base, .int .i64 k.last, .string B, .int .i64 s, .int .i64 c, .int .i64 en]] w fun e w' => e = .returned (.string ByteArray.empty) ∧ Below w.heap.size w w' := by
  have HV := hid (fun (v : World) (hb : Below w.heap.size w v) => (show Calls Tryz.prog 85 #[.agg #[.int .i64 k.o, .int .i64 k.l, .int .i64 k.m, .slice A k.ps.length cap, .int .i64 k.base, .int .i64 k.last, .string B, .int .i64 s, .int .i64 c, .int .i64 en]] v (fun e w' => e = .returned (.bool false) ∧ Below v.heap.size v w') from by
    by_cases hk : k.Ok
    · have e := c_sReaderValid k A cap L B s c en v (h.below hb hL) (by have := hb.size; omega) hB hw hk hen
      rwa [show rdOk k B s c en = false from Bool.eq_false_iff.2 (fun h9 => hr ⟨hk, h9⟩)] at e
    · exact c_sReaderValid_bad k A cap L B s c en v (h.below hb hL) (by have := hb.size; omega) hB hw hk))
  have hB0 : Below w.heap.size w (w.alloc (.cells #[.int .i64 k.o, .int .i64 k.l, .int .i64 k.m, .slice A k.ps.length cap, .int .i64 k.base, .int .i64 k.last, .string B, .int .i64 s, .int .i64 c, .int .i64 en] 39)) := bel_alloc (Below.refl _ w) _
  obtain ⟨p0, p1, p2, p3, p4, p5, p6, p7, p8, p9⟩ := (Blk.new w 39 #[.int .i64 k.o, .int .i64 k.l, .int .i64 k.m, .slice A k.ps.length cap, .int .i64 k.base, .int .i64 k.last, .string B, .int .i64 s, .int .i64 c, .int .i64 en]).cells10
  clear h hr hw
  go_enter Tryz.func52, Tryz.ntmps52
  go_wp2_with fail
  refine (HV.out _ hB0).mono ?_
  rintro e w1 ⟨rfl, hb1⟩
  go_wp2_with fail
  go_ret
  exact ⟨rfl, hB0.trans (hb1.mono hB0.size)⟩
end Go.Proofs.YtmfnfheahehpcaaGreatDoor
