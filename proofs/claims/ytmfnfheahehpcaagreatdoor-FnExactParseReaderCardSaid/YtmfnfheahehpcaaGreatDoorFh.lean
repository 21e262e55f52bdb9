/- Readers: the laws' helpers, ReaderValid in both programs. -/
import Derived.Test.YtmfnfheahehpcaaGreatDoorFe
import Derived.Test.YtmfnfheahehpcaaGreatDoorBe
import Derived.Test.YtmfnfheahehpcaaGreatDoorBj
namespace Go.Proofs.YtmfnfheahehpcaaGreatDoor
open Go.ChangeShapes Go.WideShapes Go.ChangeAt Go.RowKit Go.Joins
set_option linter.unusedVariables false
set_option linter.unusedSimpArgs false

theorem own_ps_at {w : World} {B : Nat} {e : TypeId} {A : Option Addr} {n cap : Nat} {l : List Pr} (h : w.ownsRow B e 2 (.slice A n cap) n (prs l)) : PsAt w w.heap.size A cap l := by
  obtain ⟨A', cap', e1, h2, _, _⟩ := own_ps h
  obtain ⟨rfl, -, rfl⟩ : A = A' ∧ n = l.length ∧ cap = cap' := by simpa using e1
  exact h2

theorem Blk.cells9 {w : World} {g : Nat} {t : TypeId} {a b c d e f x y z : Value} (h : Blk w g t #[a, b, c, d, e, f, x, y, z]) : w.cell? ⟨g, 0, none⟩ = some a ∧ w.cell? ⟨g, 1, none⟩ = some b ∧ w.cell? ⟨g, 2, none⟩ = some c ∧ w.cell? ⟨g, 3, none⟩ = some d ∧ w.cell? ⟨g, 4, none⟩ = some e ∧ w.cell? ⟨g, 5, none⟩ = some f ∧ w.cell? ⟨g, 6, none⟩ = some x ∧ w.cell? ⟨g, 7, none⟩ = some y ∧ w.cell? ⟨g, 8, none⟩ = some z := ⟨h.cell 0, h.cell 1, h.cell 2, h.cell 3, h.cell 4, h.cell 5, h.cell 6, h.cell 7, h.cell 8⟩

theorem Blk.cells10 {w : World} {g : Nat} {t : TypeId} {a b c d e f x y z u : Value} (h : Blk w g t #[a, b, c, d, e, f, x, y, z, u]) : w.cell? ⟨g, 0, none⟩ = some a ∧ w.cell? ⟨g, 1, none⟩ = some b ∧ w.cell? ⟨g, 2, none⟩ = some c ∧ w.cell? ⟨g, 3, none⟩ = some d ∧ w.cell? ⟨g, 4, none⟩ = some e ∧ w.cell? ⟨g, 5, none⟩ = some f ∧ w.cell? ⟨g, 6, none⟩ = some x ∧ w.cell? ⟨g, 7, none⟩ = some y ∧ w.cell? ⟨g, 8, none⟩ = some z ∧ w.cell? ⟨g, 9, none⟩ = some u := ⟨h.cell 0, h.cell 1, h.cell 2, h.cell 3, h.cell 4, h.cell 5, h.cell 6, h.cell 7, h.cell 8, h.cell 9⟩

theorem c_eqReader (k : Kn) {B : ByteArray} {s c e : Int} (A A2 : Option Addr) (cap cap2 L L2 : Nat) (w : World) (h : PsAt w L A cap k.ps) (h2 : PsAt w L2 A2 cap2 k.ps) (hL : L ≤ w.heap.size) (hL2 : L2 ≤ w.heap.size) (hn : k.ps.length ≤ 1048576) : Calls Tryz.prog 19 #[.agg #[.int .i64 k.o, .int .i64 k.l, .int .i64 k.m, .slice A k.ps.length cap, .int .i64 k.base, .int .i64 k.last, .string B, .int .i64 s, .int .i64 c, .int .i64 e], .agg #[.int .i64 k.o, .int .i64 k.l, .int .i64 k.m, .slice A2 k.ps.length cap2, .int .i64 k.base, .int .i64 k.last, .string B, .int .i64 s, .int .i64 c, .int .i64 e]] w fun e w' => e = .returned (.bool true) ∧ Below w.heap.size w w' := by
  have HE := hid (fun (v : World) (hb : Below w.heap.size w v) => c_eqKnown k A A2 cap cap2 L L2 v (h.below hb hL) (h2.below hb hL2) (Nat.le_trans hL hb.size) (Nat.le_trans hL2 hb.size) hn)
  have H1 := hid ((Blk.new w 39 #[.int .i64 k.o, .int .i64 k.l, .int .i64 k.m, .slice A k.ps.length cap, .int .i64 k.base, .int .i64 k.last, .string B, .int .i64 s, .int .i64 c, .int .i64 e]).alloc (.cells #[.int .i64 k.o, .int .i64 k.l, .int .i64 k.m, .slice A2 k.ps.length cap2, .int .i64 k.base, .int .i64 k.last, .string B, .int .i64 s, .int .i64 c, .int .i64 e] 39))
  have H2 := hid (Blk.top w (.cells #[.int .i64 k.o, .int .i64 k.l, .int .i64 k.m, .slice A k.ps.length cap, .int .i64 k.base, .int .i64 k.last, .string B, .int .i64 s, .int .i64 c, .int .i64 e] 39) 39 #[.int .i64 k.o, .int .i64 k.l, .int .i64 k.m, .slice A2 k.ps.length cap2, .int .i64 k.base, .int .i64 k.last, .string B, .int .i64 s, .int .i64 c, .int .i64 e])
  have hB0 : Below w.heap.size w ((w.alloc (.cells #[.int .i64 k.o, .int .i64 k.l, .int .i64 k.m, .slice A k.ps.length cap, .int .i64 k.base, .int .i64 k.last, .string B, .int .i64 s, .int .i64 c, .int .i64 e] 39)).alloc (.cells #[.int .i64 k.o, .int .i64 k.l, .int .i64 k.m, .slice A2 k.ps.length cap2, .int .i64 k.base, .int .i64 k.last, .string B, .int .i64 s, .int .i64 c, .int .i64 e] 39)) := by exact obB
  clear h h2
  obtain ⟨p0, p1, p2, p3, p4, p5, p6, p7, p8, p9⟩ := H1.out.cells10
  obtain ⟨u0, u1, u2, u3, u4, u5, u6, u7, u8, u9⟩ := H2.out.cells10
  go_enter Tryz.func19, Tryz.ntmps19
  go_wp2_with fail
  refine (HE.out _ hB0).mono ?_
  rintro e w1 ⟨rfl, hb1⟩
  have hB1 := bel_trans hB0 hb1
  have K1 := hid (H1.out.on hb1)
  have K2 := hid (H2.out.on hb1)
  clear p0 p1 p2 p3 p4 p5 p6 p7 p8 p9 u0 u1 u2 u3 u4 u5 u6 u7 u8 u9
  obtain ⟨p0, p1, p2, p3, p4, p5, p6, p7, p8, p9⟩ := K1.out.cells10
  obtain ⟨u0, u1, u2, u3, u4, u5, u6, u7, u8, u9⟩ := K2.out.cells10
  go_wp2
  go_ret
  exact ⟨rfl, by exact obB⟩

theorem own_apart_blk {w : World} {B : Nat} {e t : TypeId} {size n b : Nat} {v : Value} {xs : List Value} {cs : Array Value} (h : w.ownsRow B e size v n xs) (hk : Blk w b t cs) (ht : t ≠ e) : v.ownBlock = none ∨ v.ownBlock ≠ some b := by
  rcases h.2 with ⟨rfl, _⟩ | ⟨g1, cap1, cur1, rfl, _, hh1, _⟩
  · left; rfl
  · right
    intro e3
    simp only [Value.ownBlock, Option.map_some, Option.some.injEq] at e3
    subst e3
    have e5 := hk.symm.trans hh1
    injection e5 with e5
    injection e5 with e6 e7
    exact ht e7
theorem own_store_blk {w : World} {B : Nat} {e t : TypeId} {size n b : Nat} {v : Value} {xs : List Value} {cs : Array Value} (h : w.ownsRow B e size v n xs) (hk : Blk w b t cs) (ht : t ≠ e) (i : Nat) (u : Value) : (w.setCell ⟨b, i, none⟩ u).ownsRow B e size v n xs :=
  h.kept (grown_set (grown_refl w (some b)) i u) (own_apart_blk h hk ht)

theorem Blk.put10 {w : World} {b : Nat} {t : TypeId} {c0 c1 c2 c3 c4 c5 c6 c7 c8 c9 : Value} (h0 : Blk w b t #[c0, c1, c2, c3, c4, c5, c6, c7, c8, c9]) (a0 a1 a2 a3 a4 a5 a6 a7 a8 a9 : Value) : Blk ((((((((((w.setCell ⟨b, 0, none⟩ a0).setCell ⟨b, 1, none⟩ a1).setCell ⟨b, 2, none⟩ a2).setCell ⟨b, 3, none⟩ a3).setCell ⟨b, 4, none⟩ a4).setCell ⟨b, 5, none⟩ a5).setCell ⟨b, 6, none⟩ a6).setCell ⟨b, 7, none⟩ a7).setCell ⟨b, 8, none⟩ a8).setCell ⟨b, 9, none⟩ a9) b t #[a0, a1, a2, a3, a4, a5, a6, a7, a8, a9] := by
  have h1 : Blk (w.setCell ⟨b, 0, none⟩ a0) b t #[a0, c1, c2, c3, c4, c5, c6, c7, c8, c9] := h0.set_ 0 a0
  have h2 : Blk ((w.setCell ⟨b, 0, none⟩ a0).setCell ⟨b, 1, none⟩ a1) b t #[a0, a1, c2, c3, c4, c5, c6, c7, c8, c9] := h1.set_ 1 a1
  have h3 : Blk (((w.setCell ⟨b, 0, none⟩ a0).setCell ⟨b, 1, none⟩ a1).setCell ⟨b, 2, none⟩ a2) b t #[a0, a1, a2, c3, c4, c5, c6, c7, c8, c9] := h2.set_ 2 a2
  have h4 : Blk ((((w.setCell ⟨b, 0, none⟩ a0).setCell ⟨b, 1, none⟩ a1).setCell ⟨b, 2, none⟩ a2).setCell ⟨b, 3, none⟩ a3) b t #[a0, a1, a2, a3, c4, c5, c6, c7, c8, c9] := h3.set_ 3 a3
  have h5 : Blk (((((w.setCell ⟨b, 0, none⟩ a0).setCell ⟨b, 1, none⟩ a1).setCell ⟨b, 2, none⟩ a2).setCell ⟨b, 3, none⟩ a3).setCell ⟨b, 4, none⟩ a4) b t #[a0, a1, a2, a3, a4, c5, c6, c7, c8, c9] := h4.set_ 4 a4
  have h6 : Blk ((((((w.setCell ⟨b, 0, none⟩ a0).setCell ⟨b, 1, none⟩ a1).setCell ⟨b, 2, none⟩ a2).setCell ⟨b, 3, none⟩ a3).setCell ⟨b, 4, none⟩ a4).setCell ⟨b, 5, none⟩ a5) b t #[a0, a1, a2, a3, a4, a5, c6, c7, c8, c9] := h5.set_ 5 a5
  have h7 : Blk (((((((w.setCell ⟨b, 0, none⟩ a0).setCell ⟨b, 1, none⟩ a1).setCell ⟨b, 2, none⟩ a2).setCell ⟨b, 3, none⟩ a3).setCell ⟨b, 4, none⟩ a4).setCell ⟨b, 5, none⟩ a5).setCell ⟨b, 6, none⟩ a6) b t #[a0, a1, a2, a3, a4, a5, a6, c7, c8, c9] := h6.set_ 6 a6
  have h8 : Blk ((((((((w.setCell ⟨b, 0, none⟩ a0).setCell ⟨b, 1, none⟩ a1).setCell ⟨b, 2, none⟩ a2).setCell ⟨b, 3, none⟩ a3).setCell ⟨b, 4, none⟩ a4).setCell ⟨b, 5, none⟩ a5).setCell ⟨b, 6, none⟩ a6).setCell ⟨b, 7, none⟩ a7) b t #[a0, a1, a2, a3, a4, a5, a6, a7, c8, c9] := h7.set_ 7 a7
  have h9 : Blk (((((((((w.setCell ⟨b, 0, none⟩ a0).setCell ⟨b, 1, none⟩ a1).setCell ⟨b, 2, none⟩ a2).setCell ⟨b, 3, none⟩ a3).setCell ⟨b, 4, none⟩ a4).setCell ⟨b, 5, none⟩ a5).setCell ⟨b, 6, none⟩ a6).setCell ⟨b, 7, none⟩ a7).setCell ⟨b, 8, none⟩ a8) b t #[a0, a1, a2, a3, a4, a5, a6, a7, a8, c9] := h8.set_ 8 a8
  have h10 : Blk ((((((((((w.setCell ⟨b, 0, none⟩ a0).setCell ⟨b, 1, none⟩ a1).setCell ⟨b, 2, none⟩ a2).setCell ⟨b, 3, none⟩ a3).setCell ⟨b, 4, none⟩ a4).setCell ⟨b, 5, none⟩ a5).setCell ⟨b, 6, none⟩ a6).setCell ⟨b, 7, none⟩ a7).setCell ⟨b, 8, none⟩ a8).setCell ⟨b, 9, none⟩ a9) b t #[a0, a1, a2, a3, a4, a5, a6, a7, a8, a9] := h9.set_ 9 a9
  exact h10

theorem own_put10 {w : World} {B b : Nat} {e t : TypeId} {size n : Nat} {v : Value} {xs : List Value} {cs : Array Value} (h : w.ownsRow B e size v n xs) (hk : Blk w b t cs) (ht : t ≠ e) (a0 a1 a2 a3 a4 a5 a6 a7 a8 a9 : Value) : ((((((((((w.setCell ⟨b, 0, none⟩ a0).setCell ⟨b, 1, none⟩ a1).setCell ⟨b, 2, none⟩ a2).setCell ⟨b, 3, none⟩ a3).setCell ⟨b, 4, none⟩ a4).setCell ⟨b, 5, none⟩ a5).setCell ⟨b, 6, none⟩ a6).setCell ⟨b, 7, none⟩ a7).setCell ⟨b, 8, none⟩ a8).setCell ⟨b, 9, none⟩ a9).ownsRow B e size v n xs := (own_store_blk (own_store_blk (own_store_blk (own_store_blk (own_store_blk (own_store_blk (own_store_blk (own_store_blk (own_store_blk (own_store_blk h hk ht 0 a0) (hk.set_ 0 a0) ht 1 a1) ((hk.set_ 0 a0).set_ 1 a1) ht 2 a2) (((hk.set_ 0 a0).set_ 1 a1).set_ 2 a2) ht 3 a3) ((((hk.set_ 0 a0).set_ 1 a1).set_ 2 a2).set_ 3 a3) ht 4 a4) (((((hk.set_ 0 a0).set_ 1 a1).set_ 2 a2).set_ 3 a3).set_ 4 a4) ht 5 a5) ((((((hk.set_ 0 a0).set_ 1 a1).set_ 2 a2).set_ 3 a3).set_ 4 a4).set_ 5 a5) ht 6 a6) (((((((hk.set_ 0 a0).set_ 1 a1).set_ 2 a2).set_ 3 a3).set_ 4 a4).set_ 5 a5).set_ 6 a6) ht 7 a7) ((((((((hk.set_ 0 a0).set_ 1 a1).set_ 2 a2).set_ 3 a3).set_ 4 a4).set_ 5 a5).set_ 6 a6).set_ 7 a7) ht 8 a8) (((((((((hk.set_ 0 a0).set_ 1 a1).set_ 2 a2).set_ 3 a3).set_ 4 a4).set_ 5 a5).set_ 6 a6).set_ 7 a7).set_ 8 a8) ht 9 a9)

set_option maxHeartbeats 2000000 in

theorem empty_of {D : ByteArray} (h : D.size = 0) : D = ByteArray.empty := by
  apply ByteArray.ext
  apply Array.eq_empty_of_size_eq_zero
  simpa using h
theorem not_empty {D : ByteArray} (h : 0 < D.size) : D.toList.isEmpty = false := by
  rw [ByteArray.toList_eq]
  cases hd : D.data.toList with
  | nil => have h9 : D.data.toList.length = D.size := by simp
           rw [hd] at h9; simp at h9; omega
  | cons a b => rfl

set_option maxHeartbeats 4000000 in

def rvEnd (k : Kn) (B : ByteArray) (c en : Int) : Bool := if en = 1 then decide ((B.size : Int) < k.width) && decide (c < 3100) else (decide (en = 0 ∨ en = 2 ∨ en = 3) && decide (B.size = 0))
def rdOk (k : Kn) (B : ByteArray) (s c en : Int) : Bool := bitsOk B && (decide (0 ≤ s ∧ s ≤ 2000 ∧ 0 ≤ c ∧ c ≤ 3100) && rvEnd k B c en)
theorem c_ReaderValid_bad (k : Kn) (A : Option Addr) (cap L : Nat) (B : ByteArray) (s c en : Int) (w : World) (h : PsAt w L A cap k.ps) (hL : L ≤ w.heap.size) (hB : B.size ≤ maxLen) (hw : k.Wf) (hk : ¬ k.Ok) : Calls Tryz.prog 86 #[.agg #[.int .i64 k.o, .int .i64 k.l, .int .i64 k.m, .slice A k.ps.length cap, .int .i64 k.base, .int .i64 k.last, .string B, .int .i64 s, .int .i64 c, .int .i64 en]] w fun e w' => e = .returned (.bool false) ∧ Below w.heap.size w w' := by
  have HV := hid (fun (v : World) (hb : Below w.heap.size w v) => c_KnownValid_no k A cap L v (h.below hb hL) (Nat.le_trans hL hb.size) hk hw)
  obtain ⟨p0, p1, p2, p3, p4, p5, p6, p7, p8, p9⟩ := (Blk.new w 39 #[.int .i64 k.o, .int .i64 k.l, .int .i64 k.m, .slice A k.ps.length cap, .int .i64 k.base, .int .i64 k.last, .string B, .int .i64 s, .int .i64 c, .int .i64 en]).cells10
  clear h hk hw
  go_enter Tryz.func86, Tryz.ntmps86
  go_wp2_with fail
  refine (HV.out _ (by exact obB)).mono ?_
  rintro e w1 ⟨rfl, hb1⟩
  go_wp2
  go_ret
  exact ⟨rfl, by exact obB⟩
set_option maxHeartbeats 4000000 in
set_option maxRecDepth 100000 in
theorem c_ReaderValid (k : Kn) (A : Option Addr) (cap L : Nat) (B : ByteArray) (s c en : Int) (w : World) (h : PsAt w L A cap k.ps) (hL : L ≤ w.heap.size) (hB : B.size ≤ maxLen) (hw : k.Wf) (hk : k.Ok) : Calls Tryz.prog 86 #[.agg #[.int .i64 k.o, .int .i64 k.l, .int .i64 k.m, .slice A k.ps.length cap, .int .i64 k.base, .int .i64 k.last, .string B, .int .i64 s, .int .i64 c, .int .i64 en]] w fun e w' => e = .returned (.bool (rdOk k B s c en)) ∧ Below w.heap.size w w' := by
  have HV := hid (fun (v : World) (hb : Below w.heap.size w v) => c_KnownValid_yes k A cap L v (h.below hb hL) (Nat.le_trans hL hb.size) hk hw)
  have HBv := hid (fun (v : World) => c_BitsValid B v hB)
  have HWd := hid (fun (v : World) (hv : KAt v w.heap.size k (.slice A k.ps.length cap)) => c_width w.heap.size k A cap v hk hv)
  have hwb := hk.width_bd
  have HKN := hid (Blk.new w 39 #[.int .i64 k.o, .int .i64 k.l, .int .i64 k.m, .slice A k.ps.length cap, .int .i64 k.base, .int .i64 k.last, .string B, .int .i64 s, .int .i64 c, .int .i64 en])
  unfold maxLen at hB
  obtain ⟨p0, p1, p2, p3, p4, p5, p6, p7, p8, p9⟩ := HKN.out.cells10
  clear h hk hw
  have HR := hid (rfl : rdOk k B s c en = rdOk k B s c en)
  obtain ⟨R, hR⟩ : ∃ R, R = rdOk k B s c en := ⟨_, rfl⟩
  rw [← hR]
  unfold rdOk rvEnd at hR
  clear HR
  cases hb : bitsOk B with
  | false =>
    simp only [hb, Bool.false_and] at hR HBv
    subst hR
    clear hb
    go_enter Tryz.func86, Tryz.ntmps86
    go_wp2_with fail
    refine (HV.out _ (by exact obB)).mono ?_
    rintro e w1 ⟨rfl, hb1⟩
    have K1 := hid (HKN.out.on hb1)
    clear p0 p1 p2 p3 p4 p5 p6 p7 p8 p9
    obtain ⟨p0, p1, p2, p3, p4, p5, p6, p7, p8, p9⟩ := K1.out.cells10
    go_wp2_with fail
    refine (HBv.out _).mono ?_
    rintro e w2 ⟨rfl, rfl⟩
    go_wp2
    go_ret
    exact ⟨rfl, by exact obB⟩
  | true =>
    simp only [hb, Bool.true_and] at hR HBv
    clear hb
    by_cases hin : 0 ≤ s ∧ s ≤ 2000 ∧ 0 ≤ c ∧ c ≤ 3100
    · simp only [decide_eq_true hin, Bool.true_and] at hR
      obtain ⟨i0, i1, i2, i3⟩ := hin
      by_cases h1 : en = 1
      · rw [if_pos h1] at hR
        subst h1
        obtain ⟨WD, hWD⟩ : ∃ WD, WD = k.width := ⟨_, rfl⟩
        simp only [← hWD] at HWd hR hwb
        clear hWD
        by_cases h2 : (B.size : Int) < WD
        · simp only [decide_eq_true h2, Bool.true_and] at hR
          have HRR := hid hR
          have hd : decide ((B.size : Int) < WD) = true := decide_eq_true h2
          clear hR
          go_enter Tryz.func86, Tryz.ntmps86
          go_wp2_with fail
          refine (HV.out _ (by exact obB)).mono ?_
          rintro e w1 ⟨rfl, hb1⟩
          have K1 := hid (HKN.out.on hb1)
          have hB1 : Below w.heap.size w w1 := by exact obB
          clear p0 p1 p2 p3 p4 p5 p6 p7 p8 p9
          obtain ⟨p0, p1, p2, p3, p4, p5, p6, p7, p8, p9⟩ := K1.out.cells10
          go_wp2_with fail
          refine (HBv.out _).mono ?_
          rintro e w2 ⟨rfl, rfl⟩
          go_wp2_with fail
          have hS := And.intro p0 (And.intro p1 (And.intro p2 (And.intro p3 (And.intro p4 (And.intro p5 (And.intro p6 (And.intro p8 (Below.refl w1.heap.size w1))))))))
          refine wp_region_noPanic ?_
          refine wp_region_held_drew (S := (fun v => v.cell? ⟨w.heap.size, 0, none⟩ = some (.int .i64 k.o) ∧ v.cell? ⟨w.heap.size, 1, none⟩ = some (.int .i64 k.l) ∧ v.cell? ⟨w.heap.size, 2, none⟩ = some (.int .i64 k.m) ∧ v.cell? ⟨w.heap.size, 3, none⟩ = some (.slice A k.ps.length cap) ∧ v.cell? ⟨w.heap.size, 4, none⟩ = some (.int .i64 k.base) ∧ v.cell? ⟨w.heap.size, 5, none⟩ = some (.int .i64 k.last) ∧ v.cell? ⟨w.heap.size, 6, none⟩ = some (.string B) ∧ v.cell? ⟨w.heap.size, 8, none⟩ = some (.int .i64 c) ∧ Below w1.heap.size w1 v)) (by kernel_rfl) (s8_drew hS) (fun hHeld => ?_)
          refine tk 0 ?_
          refine tk 1 ?_
          refine tk 2 ?_
          refine tk 3 ?_
          refine wpAnyH_ready (rs := [4]) (by kernel_rfl) (by simp) ?_
          refine AllReadyH.cons (o := ?or1_4) ?ir1_4 (fun K hK => ?sr1_4) AllReadyH.nil
          case ir1_4 => (simp only [List.getElem?_toArray, List.getElem?_cons_succ, List.getElem?_cons_zero]; rfl)
          (first | (go_simp; (first | (go_at_call 110; refine (HWd.out _ ⟨by have := hHeld.2.2.2.2.2.2.2.2.size; have := K1.out.lt; omega, hHeld.1, hHeld.2.1, hHeld.2.2.1, hHeld.2.2.2.1, hHeld.2.2.2.2.1, hHeld.2.2.2.2.2.1⟩).mono ?_; rintro e wQ ⟨rfl, hbQ⟩) | skip)))
          refine hK.out _ _ ?kr1_4 (fun hHeld => ?_)
          case kr1_4 => (try dsimp only); (first | with_reducible assumption | exact s8_bel (by assumption) (by assumption) | assumption | exact s8_alloc (by assumption) _)
          clear hK K
          try simp only [Act.put, List.setIfInBounds_toArray, List.set_cons_zero, List.set_cons_succ]
          refine tk 5 ?_
          refine tk 6 ?_
          refine tk 7 ?_
          refine tk 8 ?_
          refine tk 9 ?_
          refine tk 10 ?_
          refine tk 11 ?_
          refine wpAnyH_done (by kernel_rfl) ?_ _
          refine NoPanic.normal ?_
          go_wp2
          go_ret
          exact ⟨ret_bool HRR.out.symm, by exact obB⟩
        · simp only [decide_eq_false h2, Bool.false_and] at hR
          subst hR
          have hd : decide ((B.size : Int) < WD) = false := decide_eq_false h2
          go_enter Tryz.func86, Tryz.ntmps86
          go_wp2_with fail
          refine (HV.out _ (by exact obB)).mono ?_
          rintro e w1 ⟨rfl, hb1⟩
          have K1 := hid (HKN.out.on hb1)
          have hB1 : Below w.heap.size w w1 := by exact obB
          clear p0 p1 p2 p3 p4 p5 p6 p7 p8 p9
          obtain ⟨p0, p1, p2, p3, p4, p5, p6, p7, p8, p9⟩ := K1.out.cells10
          go_wp2_with fail
          refine (HBv.out _).mono ?_
          rintro e w2 ⟨rfl, rfl⟩
          go_wp2_with fail
          have hS := And.intro p0 (And.intro p1 (And.intro p2 (And.intro p3 (And.intro p4 (And.intro p5 (And.intro p6 (And.intro p8 (Below.refl w1.heap.size w1))))))))
          refine wp_region_noPanic ?_
          refine wp_region_held_drew (S := (fun v => v.cell? ⟨w.heap.size, 0, none⟩ = some (.int .i64 k.o) ∧ v.cell? ⟨w.heap.size, 1, none⟩ = some (.int .i64 k.l) ∧ v.cell? ⟨w.heap.size, 2, none⟩ = some (.int .i64 k.m) ∧ v.cell? ⟨w.heap.size, 3, none⟩ = some (.slice A k.ps.length cap) ∧ v.cell? ⟨w.heap.size, 4, none⟩ = some (.int .i64 k.base) ∧ v.cell? ⟨w.heap.size, 5, none⟩ = some (.int .i64 k.last) ∧ v.cell? ⟨w.heap.size, 6, none⟩ = some (.string B) ∧ v.cell? ⟨w.heap.size, 8, none⟩ = some (.int .i64 c) ∧ Below w1.heap.size w1 v)) (by kernel_rfl) (s8_drew hS) (fun hHeld => ?_)
          refine tk 0 ?_
          refine tk 1 ?_
          refine tk 2 ?_
          refine tk 3 ?_
          refine wpAnyH_ready (rs := [4]) (by kernel_rfl) (by simp) ?_
          refine AllReadyH.cons (o := ?or2_4) ?ir2_4 (fun K hK => ?sr2_4) AllReadyH.nil
          case ir2_4 => (simp only [List.getElem?_toArray, List.getElem?_cons_succ, List.getElem?_cons_zero]; rfl)
          (first | (go_simp; (first | (go_at_call 110; refine (HWd.out _ ⟨by have := hHeld.2.2.2.2.2.2.2.2.size; have := K1.out.lt; omega, hHeld.1, hHeld.2.1, hHeld.2.2.1, hHeld.2.2.2.1, hHeld.2.2.2.2.1, hHeld.2.2.2.2.2.1⟩).mono ?_; rintro e wQ ⟨rfl, hbQ⟩) | skip)))
          refine hK.out _ _ ?kr2_4 (fun hHeld => ?_)
          case kr2_4 => (try dsimp only); (first | with_reducible assumption | exact s8_bel (by assumption) (by assumption) | assumption | exact s8_alloc (by assumption) _)
          clear hK K
          try simp only [Act.put, List.setIfInBounds_toArray, List.set_cons_zero, List.set_cons_succ]
          refine tk 5 ?_
          refine tk 6 ?_
          refine tu 7 ?_
          refine tu 8 ?_
          refine tu 9 ?_
          refine tk 10 ?_
          refine tk 11 ?_
          refine wpAnyH_done (by kernel_rfl) ?_ _
          refine NoPanic.normal ?_
          go_wp2
          go_ret
          exact ⟨rfl, by exact obB⟩
      · rw [if_neg h1] at hR
        by_cases h2 : en = 0 ∨ en = 2 ∨ en = 3
        · simp only [decide_eq_true h2, Bool.true_and] at hR
          by_cases h3 : B.size = 0
          · simp only [decide_eq_true h3] at hR
            have e0 := empty_of h3
            subst e0 hR
            rcases h2 with rfl | rfl | rfl
            all_goals
              go_enter Tryz.func86, Tryz.ntmps86
              go_wp2_with fail
              refine (HV.out _ (by exact obB)).mono ?_
              rintro e w1 ⟨rfl, hb1⟩
              have K1 := hid (HKN.out.on hb1)
              have hB1 : Below w.heap.size w w1 := by exact obB
              clear p0 p1 p2 p3 p4 p5 p6 p7 p8 p9
              obtain ⟨p0, p1, p2, p3, p4, p5, p6, p7, p8, p9⟩ := K1.out.cells10
              go_wp2_with fail
              refine (HBv.out _).mono ?_
              rintro e w2 ⟨rfl, rfl⟩
              go_wp2
              go_ret
              exact ⟨rfl, by exact obB⟩
          · simp only [decide_eq_false h3] at hR
            subst hR
            have he := not_empty (D := B) (by omega)
            rcases h2 with rfl | rfl | rfl
            all_goals
              go_enter Tryz.func86, Tryz.ntmps86
              go_wp2_with fail
              refine (HV.out _ (by exact obB)).mono ?_
              rintro e w1 ⟨rfl, hb1⟩
              have K1 := hid (HKN.out.on hb1)
              have hB1 : Below w.heap.size w w1 := by exact obB
              clear p0 p1 p2 p3 p4 p5 p6 p7 p8 p9
              obtain ⟨p0, p1, p2, p3, p4, p5, p6, p7, p8, p9⟩ := K1.out.cells10
              go_wp2_with fail
              refine (HBv.out _).mono ?_
              rintro e w2 ⟨rfl, rfl⟩
              go_wp2
              go_ret
              exact ⟨rfl, by exact obB⟩
        · simp only [decide_eq_false h2, Bool.false_and] at hR
          subst hR
          have n0 : en ≠ 0 := fun e => h2 (Or.inl e)
          have n2 : en ≠ 2 := fun e => h2 (Or.inr (Or.inl e))
          have n3 : en ≠ 3 := fun e => h2 (Or.inr (Or.inr e))
          clear h2
          go_enter Tryz.func86, Tryz.ntmps86
          go_wp2_with fail
          refine (HV.out _ (by exact obB)).mono ?_
          rintro e w1 ⟨rfl, hb1⟩
          have K1 := hid (HKN.out.on hb1)
          have hB1 : Below w.heap.size w w1 := by exact obB
          clear p0 p1 p2 p3 p4 p5 p6 p7 p8 p9
          obtain ⟨p0, p1, p2, p3, p4, p5, p6, p7, p8, p9⟩ := K1.out.cells10
          go_wp2_with fail
          refine (HBv.out _).mono ?_
          rintro e w2 ⟨rfl, rfl⟩
          go_wp2_with fail
          go_wp2
          go_ret
          exact ⟨rfl, by exact obB⟩
    · simp only [decide_eq_false hin, Bool.false_and] at hR
      subst hR
      go_enter Tryz.func86, Tryz.ntmps86
      go_wp2_with fail
      refine (HV.out _ (by exact obB)).mono ?_
      rintro e w1 ⟨rfl, hb1⟩
      have K1 := hid (HKN.out.on hb1)
      clear p0 p1 p2 p3 p4 p5 p6 p7 p8 p9
      obtain ⟨p0, p1, p2, p3, p4, p5, p6, p7, p8, p9⟩ := K1.out.cells10
      go_wp2_with fail
      refine (HBv.out _).mono ?_
      rintro e w2 ⟨rfl, rfl⟩
      go_wp2
      all_goals first
        | (go_ret; exact ⟨rfl, by exact obB⟩)
        | (exfalso; omega)

set_option linter.unusedSimpArgs false

theorem c_sReaderValid_bad (k : Kn) (A : Option Addr) (cap L : Nat) (B : ByteArray) (s c en : Int) (w : World) (h : PsAt w L A cap k.ps) (hL : L ≤ w.heap.size) (hB : B.size ≤ maxLen) (hw : k.Wf) (hk : ¬ k.Ok) : Calls Tryz.prog 85 #[.agg #[.int .i64 k.o, .int .i64 k.l, .int .i64 k.m, .slice A k.ps.length cap, .int .i64 k.base, .int .i64 k.last, .string B, .int .i64 s, .int .i64 c, .int .i64 en]] w fun e w' => e = .returned (.bool false) ∧ Below w.heap.size w w' := by
  have HV := hid (fun (v : World) (hb : Below w.heap.size w v) => c_sKnownValid_no k A cap L v (h.below hb hL) (Nat.le_trans hL hb.size) hk hw)
  obtain ⟨p0, p1, p2, p3, p4, p5, p6, p7, p8, p9⟩ := (Blk.new w 39 #[.int .i64 k.o, .int .i64 k.l, .int .i64 k.m, .slice A k.ps.length cap, .int .i64 k.base, .int .i64 k.last, .string B, .int .i64 s, .int .i64 c, .int .i64 en]).cells10
  clear h hk hw
  go_enter Tryz.func85, Tryz.ntmps85
  go_wp2_with fail
  refine (HV.out _ (by exact obB)).mono ?_
  rintro e w1 ⟨rfl, hb1⟩
  go_wp2
  go_ret
  exact ⟨rfl, by exact obB⟩

set_option maxHeartbeats 4000000 in
set_option maxRecDepth 100000 in
theorem c_sReaderValid (k : Kn) (A : Option Addr) (cap L : Nat) (B : ByteArray) (s c en : Int) (w : World) (h : PsAt w L A cap k.ps) (hL : L ≤ w.heap.size) (hB : B.size ≤ maxLen) (hw : k.Wf) (hk : k.Ok) (hen : -9223372036854775808 ≤ en ∧ en ≤ 9223372036854775807) : Calls Tryz.prog 85 #[.agg #[.int .i64 k.o, .int .i64 k.l, .int .i64 k.m, .slice A k.ps.length cap, .int .i64 k.base, .int .i64 k.last, .string B, .int .i64 s, .int .i64 c, .int .i64 en]] w fun e w' => e = .returned (.bool (rdOk k B s c en)) ∧ Below w.heap.size w w' := by
  have HV := hid (fun (v : World) (hb : Below w.heap.size w v) => c_sKnownValid_yes k A cap L v (h.below hb hL) (Nat.le_trans hL hb.size) hk hw)
  have HBv := hid (fun (v : World) => c_sBitsValid B v hB)
  have HWd := hid (fun (v : World) => c_l2Width k A cap v hk)
  have hwb := hk.width_bd
  have HS := hid (fun (v : World) => c_l1In s 0 2000 v)
  have HC := hid (fun (v : World) => c_l1In c 0 3100 v)
  have HE := hid (fun (v : World) => c_l1In en 0 3 v)
  have HKN := hid (Blk.new w 39 #[.int .i64 k.o, .int .i64 k.l, .int .i64 k.m, .slice A k.ps.length cap, .int .i64 k.base, .int .i64 k.last, .string B, .int .i64 s, .int .i64 c, .int .i64 en])
  obtain ⟨p0, p1, p2, p3, p4, p5, p6, p7, p8, p9⟩ := HKN.out.cells10
  unfold maxLen at hB
  clear h hk hw
  cases hb : bitsOk B with
  | false =>
    have HR := hid (show rdOk k B s c en = false by simp [rdOk, hb])
    simp only [hb] at HBv
    rw [HR.out]
    clear hb
    go_enter Tryz.func85, Tryz.ntmps85
    go_wp2_with fail
    refine (HV.out _ (by exact obB)).mono ?_
    rintro e w1 ⟨rfl, hb1⟩
    obtain ⟨q0, q1, q2, q3, q4, q5, q6, q7, q8, q9⟩ := (HKN.out.on hb1).cells10
    clear p0 p1 p2 p3 p4 p5 p6 p7 p8 p9
    go_wp2_with fail
    refine (HBv.out _).mono ?_
    rintro e w2 ⟨rfl, rfl⟩
    go_wp2
    go_ret
    exact ⟨rfl, by exact obB⟩
  | true =>
    simp only [hb] at HBv
    cases h1 : inB s 0 2000 with
    | false =>
      have HR := hid (show rdOk k B s c en = false by
        have : ¬ (0 ≤ s ∧ s ≤ 2000) := fun e => by rw [inB_iff.2 e] at h1; simp at h1
        simp only [rdOk, hb, Bool.true_and]
        rw [decide_eq_false (fun e => this ⟨e.1, e.2.1⟩)]; rfl)
      simp only [h1] at HS
      rw [HR.out]
      clear hb h1
      go_enter Tryz.func85, Tryz.ntmps85
      go_wp2_with fail
      refine (HV.out _ (by exact obB)).mono ?_
      rintro e w1 ⟨rfl, hb1⟩
      have HK4 := hid (HKN.out.on hb1)
      obtain ⟨q0, q1, q2, q3, q4, q5, q6, q7, q8, q9⟩ := HK4.out.cells10
      clear p0 p1 p2 p3 p4 p5 p6 p7 p8 p9
      go_wp2_with fail
      refine (HBv.out _).mono ?_
      rintro e w2 ⟨rfl, rfl⟩
      go_wp2_with fail
      refine (HS.out _).mono ?_
      rintro e w2 ⟨rfl, rfl⟩
      go_wp2
      go_ret
      exact ⟨rfl, by exact obB⟩
    | true =>
      simp only [h1] at HS
      cases h2 : inB c 0 3100 with
      | false =>
        have HR := hid (show rdOk k B s c en = false by
          have : ¬ (0 ≤ c ∧ c ≤ 3100) := fun e => by rw [inB_iff.2 e] at h2; simp at h2
          simp only [rdOk, hb, Bool.true_and]
          rw [decide_eq_false (fun e => this ⟨e.2.2.1, e.2.2.2⟩)]; rfl)
        simp only [h2] at HC
        rw [HR.out]
        clear hb h1 h2
        go_enter Tryz.func85, Tryz.ntmps85
        go_wp2_with fail
        refine (HV.out _ (by exact obB)).mono ?_
        rintro e w1 ⟨rfl, hb1⟩
        have HK4 := hid (HKN.out.on hb1)
        obtain ⟨q0, q1, q2, q3, q4, q5, q6, q7, q8, q9⟩ := HK4.out.cells10
        clear p0 p1 p2 p3 p4 p5 p6 p7 p8 p9
        go_wp2_with fail
        refine (HBv.out _).mono ?_
        rintro e w2 ⟨rfl, rfl⟩
        go_wp2_with fail
        refine (HS.out _).mono ?_
        rintro e w2 ⟨rfl, rfl⟩
        go_wp2_with fail
        refine (HC.out _).mono ?_
        rintro e w2 ⟨rfl, rfl⟩
        go_wp2
        go_ret
        exact ⟨rfl, by exact obB⟩
      | true =>
        simp only [h2] at HC
        have HR0 := hid (show rdOk k B s c en = rvEnd k B c en by
          have e1 := inB_iff.1 h1
          have e2 := inB_iff.1 h2
          simp only [rdOk, hb, Bool.true_and]
          rw [decide_eq_true ⟨e1.1, e1.2, e2.1, e2.2⟩, Bool.true_and])
        have hcb := inB_iff.1 h2
        rw [HR0.out]
        clear hb h1 h2 HR0
        by_cases he : en = 1
        · subst he
          have he1 : ((1 : Int) == 1) = true := rfl
          by_cases hs : (B.size : Int) < k.width
          · have hd : decide ((B.size : Int) < k.width) = true := decide_eq_true hs
            have HR := hid (show rvEnd k B c 1 = decide (c < 3100) by simp [rvEnd, hd])
            rw [HR.out]
            clear hs
            go_enter Tryz.func85, Tryz.ntmps85
            go_wp2_with fail
            refine (HV.out _ (by exact obB)).mono ?_
            rintro e w1 ⟨rfl, hb1⟩
            have HK4 := hid (HKN.out.on hb1)
            obtain ⟨q0, q1, q2, q3, q4, q5, q6, q7, q8, q9⟩ := HK4.out.cells10
            clear p0 p1 p2 p3 p4 p5 p6 p7 p8 p9
            go_wp2_with fail
            refine (HBv.out _).mono ?_
            rintro e w2 ⟨rfl, rfl⟩
            go_wp2_with fail
            refine (HS.out _).mono ?_
            rintro e w2 ⟨rfl, rfl⟩
            go_wp2_with fail
            refine (HC.out _).mono ?_
            rintro e w2 ⟨rfl, rfl⟩
            go_wp2_with fail
            have hS := And.intro q0 (And.intro q1 (And.intro q2 (And.intro q3 (And.intro q4 (And.intro q5 (And.intro q6 (And.intro q8 (Below.refl w1.heap.size w1))))))))
            refine wp_region_noPanic ?_
            refine wp_region_held_drew (S := (fun v => v.cell? ⟨w.heap.size, 0, none⟩ = some (.int .i64 k.o) ∧ v.cell? ⟨w.heap.size, 1, none⟩ = some (.int .i64 k.l) ∧ v.cell? ⟨w.heap.size, 2, none⟩ = some (.int .i64 k.m) ∧ v.cell? ⟨w.heap.size, 3, none⟩ = some (.slice A k.ps.length cap) ∧ v.cell? ⟨w.heap.size, 4, none⟩ = some (.int .i64 k.base) ∧ v.cell? ⟨w.heap.size, 5, none⟩ = some (.int .i64 k.last) ∧ v.cell? ⟨w.heap.size, 6, none⟩ = some (.string B) ∧ v.cell? ⟨w.heap.size, 8, none⟩ = some (.int .i64 c) ∧ Below w1.heap.size w1 v)) (by kernel_rfl) (s8_drew hS) (fun hHeld => ?_)
            refine tk 0 ?_
            refine tk 1 ?_
            refine tk 2 ?_
            refine tk 3 ?_
            refine tk 4 ?_
            refine wpAnyH_ready (rs := [5]) (by kernel_rfl) (by simp) ?_
            refine AllReadyH.cons (o := ?or3_5) ?ir3_5 (fun K hK => ?sr3_5) AllReadyH.nil
            case ir3_5 => (simp only [List.getElem?_toArray, List.getElem?_cons_succ, List.getElem?_cons_zero]; rfl)
            (first | (go_simp; (first | (go_at_call 108; refine (HWd.out _).mono ?_; rintro e wQ ⟨rfl, hbQ⟩) | skip)))
            refine hK.out _ _ ?kr3_5 (fun hHeld => ?_)
            case kr3_5 => (try dsimp only); (first | with_reducible assumption | exact s8_bel (by assumption) (by assumption) | assumption | exact s8_alloc (by assumption) _)
            clear hK K
            try simp only [Act.put, List.setIfInBounds_toArray, List.set_cons_zero, List.set_cons_succ]
            refine tk 6 ?_
            refine tk 7 ?_
            refine tk 8 ?_
            refine tk 9 ?_
            refine tk 10 ?_
            refine tk 11 ?_
            refine tk 12 ?_
            refine wpAnyH_done (by kernel_rfl) ?_ _
            refine NoPanic.normal ?_
            go_wp2
            go_ret
            exact ⟨ret_bool (by first | rfl | simp [hd]), by exact obB⟩
          · have hd : decide ((B.size : Int) < k.width) = false := decide_eq_false hs
            have HR := hid (show rvEnd k B c 1 = false by simp [rvEnd, hd])
            rw [HR.out]
            clear hs
            go_enter Tryz.func85, Tryz.ntmps85
            go_wp2_with fail
            refine (HV.out _ (by exact obB)).mono ?_
            rintro e w1 ⟨rfl, hb1⟩
            have HK4 := hid (HKN.out.on hb1)
            obtain ⟨q0, q1, q2, q3, q4, q5, q6, q7, q8, q9⟩ := HK4.out.cells10
            clear p0 p1 p2 p3 p4 p5 p6 p7 p8 p9
            go_wp2_with fail
            refine (HBv.out _).mono ?_
            rintro e w2 ⟨rfl, rfl⟩
            go_wp2_with fail
            refine (HS.out _).mono ?_
            rintro e w2 ⟨rfl, rfl⟩
            go_wp2_with fail
            refine (HC.out _).mono ?_
            rintro e w2 ⟨rfl, rfl⟩
            go_wp2_with fail
            have hS := And.intro q0 (And.intro q1 (And.intro q2 (And.intro q3 (And.intro q4 (And.intro q5 (And.intro q6 (And.intro q8 (Below.refl w1.heap.size w1))))))))
            refine wp_region_noPanic ?_
            refine wp_region_held_drew (S := (fun v => v.cell? ⟨w.heap.size, 0, none⟩ = some (.int .i64 k.o) ∧ v.cell? ⟨w.heap.size, 1, none⟩ = some (.int .i64 k.l) ∧ v.cell? ⟨w.heap.size, 2, none⟩ = some (.int .i64 k.m) ∧ v.cell? ⟨w.heap.size, 3, none⟩ = some (.slice A k.ps.length cap) ∧ v.cell? ⟨w.heap.size, 4, none⟩ = some (.int .i64 k.base) ∧ v.cell? ⟨w.heap.size, 5, none⟩ = some (.int .i64 k.last) ∧ v.cell? ⟨w.heap.size, 6, none⟩ = some (.string B) ∧ v.cell? ⟨w.heap.size, 8, none⟩ = some (.int .i64 c) ∧ Below w1.heap.size w1 v)) (by kernel_rfl) (s8_drew hS) (fun hHeld => ?_)
            refine tk 0 ?_
            refine tk 1 ?_
            refine tk 2 ?_
            refine tk 3 ?_
            refine tk 4 ?_
            refine wpAnyH_ready (rs := [5]) (by kernel_rfl) (by simp) ?_
            refine AllReadyH.cons (o := ?or4_5) ?ir4_5 (fun K hK => ?sr4_5) AllReadyH.nil
            case ir4_5 => (simp only [List.getElem?_toArray, List.getElem?_cons_succ, List.getElem?_cons_zero]; rfl)
            (first | (go_simp; (first | (go_at_call 108; refine (HWd.out _).mono ?_; rintro e wQ ⟨rfl, hbQ⟩) | skip)))
            refine hK.out _ _ ?kr4_5 (fun hHeld => ?_)
            case kr4_5 => (try dsimp only); (first | with_reducible assumption | exact s8_bel (by assumption) (by assumption) | assumption | exact s8_alloc (by assumption) _)
            clear hK K
            try simp only [Act.put, List.setIfInBounds_toArray, List.set_cons_zero, List.set_cons_succ]
            refine tk 6 ?_
            refine tk 7 ?_
            refine tu 8 ?_
            refine tu 9 ?_
            refine tu 10 ?_
            refine tk 11 ?_
            refine tk 12 ?_
            refine wpAnyH_done (by kernel_rfl) ?_ _
            refine NoPanic.normal ?_
            go_wp2
            go_ret
            exact ⟨ret_bool (by first | rfl | simp [hd]), by exact obB⟩
        · have he1 : (en == 1) = false := by simpa using he
          cases h3 : inB en 0 3 with
          | false =>
            have HR := hid (show rvEnd k B c en = false by
              have : ¬ (en = 0 ∨ en = 2 ∨ en = 3) := fun e => by rw [inB_iff.2 (by omega)] at h3; simp at h3
              simp only [rvEnd, if_neg he]
              rw [decide_eq_false this]; rfl)
            simp only [h3] at HE
            rw [HR.out]
            clear h3 he
            go_enter Tryz.func85, Tryz.ntmps85
            go_wp2_with fail
            refine (HV.out _ (by exact obB)).mono ?_
            rintro e w1 ⟨rfl, hb1⟩
            have HK4 := hid (HKN.out.on hb1)
            obtain ⟨q0, q1, q2, q3, q4, q5, q6, q7, q8, q9⟩ := HK4.out.cells10
            clear p0 p1 p2 p3 p4 p5 p6 p7 p8 p9
            go_wp2_with fail
            refine (HBv.out _).mono ?_
            rintro e w2 ⟨rfl, rfl⟩
            go_wp2_with fail
            refine (HS.out _).mono ?_
            rintro e w2 ⟨rfl, rfl⟩
            go_wp2_with fail
            refine (HC.out _).mono ?_
            rintro e w2 ⟨rfl, rfl⟩
            go_wp2_with fail
            refine (HE.out _).mono ?_
            rintro e w2 ⟨rfl, rfl⟩
            go_wp2
            go_ret
            exact ⟨rfl, by exact obB⟩
          | true =>
            have h4 := inB_iff.1 h3
            simp only [h3] at HE
            have HR := hid (show rvEnd k B c en = decide (B.size = 0) by
              simp only [rvEnd, if_neg he]
              rw [decide_eq_true (show en = 0 ∨ en = 2 ∨ en = 3 by omega), Bool.true_and])
            rw [HR.out]
            clear h3 he h4
            by_cases h0 : B.size = 0
            · have e := empty_of h0
              subst e
              go_enter Tryz.func85, Tryz.ntmps85
              go_wp2_with fail
              refine (HV.out _ (by exact obB)).mono ?_
              rintro e w1 ⟨rfl, hb1⟩
              have HK4 := hid (HKN.out.on hb1)
              obtain ⟨q0, q1, q2, q3, q4, q5, q6, q7, q8, q9⟩ := HK4.out.cells10
              clear p0 p1 p2 p3 p4 p5 p6 p7 p8 p9
              go_wp2_with fail
              refine (HBv.out _).mono ?_
              rintro e w2 ⟨rfl, rfl⟩
              go_wp2_with fail
              refine (HS.out _).mono ?_
              rintro e w2 ⟨rfl, rfl⟩
              go_wp2_with fail
              refine (HC.out _).mono ?_
              rintro e w2 ⟨rfl, rfl⟩
              go_wp2_with fail
              refine (HE.out _).mono ?_
              rintro e w2 ⟨rfl, rfl⟩
              go_wp2
              go_ret
              exact ⟨rfl, by exact obB⟩
            · have hne := not_empty (D := B) (by omega)
              have hd0 := decide_eq_false h0
              go_enter Tryz.func85, Tryz.ntmps85
              go_wp2_with fail
              refine (HV.out _ (by exact obB)).mono ?_
              rintro e w1 ⟨rfl, hb1⟩
              have HK4 := hid (HKN.out.on hb1)
              obtain ⟨q0, q1, q2, q3, q4, q5, q6, q7, q8, q9⟩ := HK4.out.cells10
              clear p0 p1 p2 p3 p4 p5 p6 p7 p8 p9
              go_wp2_with fail
              refine (HBv.out _).mono ?_
              rintro e w2 ⟨rfl, rfl⟩
              go_wp2_with fail
              refine (HS.out _).mono ?_
              rintro e w2 ⟨rfl, rfl⟩
              go_wp2_with fail
              refine (HC.out _).mono ?_
              rintro e w2 ⟨rfl, rfl⟩
              go_wp2_with fail
              refine (HE.out _).mono ?_
              rintro e w2 ⟨rfl, rfl⟩
              go_wp2
              go_ret
              exact ⟨ret_bool (by simp [hd0, *]), by exact obB⟩
end Go.Proofs.YtmfnfheahehpcaaGreatDoor
