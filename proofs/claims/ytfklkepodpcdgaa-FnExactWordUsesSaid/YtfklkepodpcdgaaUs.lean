/- The contract of the specification's UnpackCodes. No condition but that the numbers are int's. -/
import Derived.Test.YtfklkepodpcdgaaRq
import Derived.Test.YtfklkepodpcdgaaBi
import Derived.Test.YtfklkepodpcdgaaBd
namespace Go.Proofs.Ytfklkepodpcdgaa
open Go.ChangeShapes Go.WideShapes Go.ChangeAt Go.RowKit Go.Joins
set_option linter.unusedVariables false
set_option linter.unusedSectionVars false

theorem s6_mk {v v0 : World} {a0 a1 a2 a3 a4 a5 : Addr} {x0 x1 x2 x3 x4 x5 : Value} (h0 : v.cell? a0 = some x0) (h1 : v.cell? a1 = some x1) (h2 : v.cell? a2 = some x2) (h3 : v.cell? a3 = some x3) (h4 : v.cell? a4 = some x4) (h5 : v.cell? a5 = some x5) (hb : Below v0.heap.size v0 v) : v.cell? a0 = some x0 ∧ v.cell? a1 = some x1 ∧ v.cell? a2 = some x2 ∧ v.cell? a3 = some x3 ∧ v.cell? a4 = some x4 ∧ v.cell? a5 = some x5 ∧ Below v0.heap.size v0 v := ⟨h0, h1, h2, h3, h4, h5, hb⟩
section
variable {B : List Bool} {f a n sz : Nat} {K : Kn} {C : Int} (hC : C = K.codeAt B a) (hfit : a + K.width.toNat ≤ B.length)

include hC hfit

theorem Kn.rd_whole (h1 : C = K.c + 1) : Kn.rd B (f + 1) K a n sz = ([C], 0, a + K.width.toNat) := by subst hC; rw [Kn.rd, if_pos hfit, if_pos h1]

theorem Kn.rd_wrong (h1 : C ≠ K.c + 1) (h2 : ¬ (C = K.c ∨ K.Fol C)) : Kn.rd B (f + 1) K a n sz = ([], 2, a + K.width.toNat) := by subst hC; rw [Kn.rd, if_pos hfit, if_neg h1, if_neg h2]

theorem Kn.rd_long (h1 : C ≠ K.c + 1) (h2 : C = K.c ∨ K.Fol C) (h3 : 2000 < sz + (K.part C).length) : Kn.rd B (f + 1) K a n sz = ([], 3, a + K.width.toNat) := by subst hC; rw [Kn.rd, if_pos hfit, if_neg h1, if_pos h2, if_pos h3]

theorem Kn.rd_max (h1 : C ≠ K.c + 1) (h2 : C = K.c ∨ K.Fol C) (h3 : ¬ 2000 < sz + (K.part C).length) (h4 : n + 1 = 3100) : Kn.rd B (f + 1) K a n sz = ([C], 3, a + K.width.toNat) := by subst hC; rw [Kn.rd, if_pos hfit, if_neg h1, if_pos h2, if_neg h3, if_pos h4]

theorem Kn.rd_go (h1 : C ≠ K.c + 1) (h2 : C = K.c ∨ K.Fol C) (h3 : ¬ 2000 < sz + (K.part C).length) (h4 : n + 1 ≠ 3100) : Kn.rd B (f + 1) K a n sz = (C :: (Kn.rd B f (K.step C) (a + K.width.toNat) (n + 1) (sz + (K.part C).length)).1, (Kn.rd B f (K.step C) (a + K.width.toNat) (n + 1) (sz + (K.part C).length)).2) := by subst hC; rw [Kn.rd, if_pos hfit, if_neg h1, if_pos h2, if_neg h3, if_neg h4]

end
def UDone (k : Kn) (s : ByteArray) (w : World) (e : Ending) (w' : World) : Prop :=
  ∃ A' cap', e = .returned (.tuple #[.slice A' (k.uc s).length cap', .int .i64 (k.ue s), .int .i64 (k.uu s : Nat)]) ∧ w'.ownsRow w.heap.size 3 1 (.slice A' (k.uc s).length cap') (k.uc s).length ((k.uc s).map iv) ∧ Below w.heap.size w w'

theorem UDone.of {k : Kn} {s : ByteArray} {w w' : World} {cs : List Int} {e U : Int} {u n cap : Nat} {A : Option Addr} (hx : k.rdAll s = (cs, e, u)) (hn : n = cs.length) (ho : w'.ownsRow w.heap.size 3 1 (.slice A n cap) n (cs.map iv)) (hb : Below w.heap.size w w') (hU : U = (((u + 7) / 8 : Nat) : Int)) : UDone k s w (.returned (.tuple #[.slice A n cap, .int .i64 e, .int .i64 U])) w' := by
  subst hn hU
  have h1 : k.uc s = cs := by rw [Kn.uc, hx]
  have h2 : k.ue s = e := by rw [Kn.ue, hx]
  have h3 : k.uu s = (u + 7) / 8 := by rw [Kn.uu, hx]
  exact ⟨A, cap, by rw [h1, h2, h3], by rw [h1]; exact ho, hb⟩
def URel (k : Kn) (s : ByteArray) (w : World) (v7 v8 v9 : Value) (wr : World) : Prop :=
  ∃ (K : Kn) (cs : List Int) (a sz f : Nat) (A : Option Addr) (cap : Nat), v8 = .int .i64 a ∧ v9 = .int .i64 sz ∧ K.Ok ∧ K.o = k.o ∧ sz ≤ 2000 ∧ cs.length < 3100 ∧ a ≤ 8 * s.size ∧ 8 * s.size < a + f ∧
    k.rdAll s = (cs ++ (Kn.rd (k.bitsOf s) f K a cs.length sz).1, (Kn.rd (k.bitsOf s) f K a cs.length sz).2) ∧
    Blk wr w.heap.size 55 #[.int .i64 K.o, .int .i64 K.l, .int .i64 K.m, .slice A K.ps.length cap, .int .i64 K.base, .int .i64 K.last] ∧ Pin wr w.heap.size A cap K.ps ∧ wr.ownsRow w.heap.size 3 1 v7 cs.length (cs.map iv) ∧ Below w.heap.size w wr

theorem URel.next {k : Kn} {s : ByteArray} {w w13 : World} {K K2 : Kn} {cs : List Int} {C : Int} {a wn sz2 f n B' : Nat} {A13 A7 : Option Addr} {c13 c7 : Nat} {a0 a1 a2 a3 a4 a5 : Value} {X8 X9 : Int} (hn : n = cs.length + 1) (hK : K.Ok) (hKo : K.o = k.o) (hK2 : K2 = K.step C) (hok : C = K.c ∨ K.Fol C) (h8 : X8 = ((a + wn : Nat) : Int)) (h9 : X9 = (sz2 : Int)) (hz2 : sz2 ≤ 2000) (hl : n < 3100) (hal : a + wn ≤ 8 * s.size) (hwn : 2 ≤ wn) (hf : 8 * s.size < a + (f + 1))
    (hrd : k.rdAll s = (cs ++ (C :: (Kn.rd (k.bitsOf s) f (K.step C) (a + wn) (cs.length + 1) sz2).1), (Kn.rd (k.bitsOf s) f (K.step C) (a + wn) (cs.length + 1) sz2).2))
    (kb : Blk w13 w.heap.size 55 #[a0, a1, a2, a3, a4, a5])
    (ho : w13.ownsRow B' 169 2 (.slice A13 K2.ps.length c13) K2.ps.length (prs K2.ps)) (hB' : w.heap.size ≤ B') (o7 : w13.ownsRow w.heap.size 3 1 (.slice A7 n c7) n ((cs ++ [C]).map iv)) (hB : Below w.heap.size w w13) :
    URel k s w (.slice A7 n c7) (.int .i64 X8) (.int .i64 X9) ((((((w13.setCell ⟨w.heap.size, 0, none⟩ (.int .i64 K.o)).setCell ⟨w.heap.size, 1, none⟩ (.int .i64 K.l)).setCell ⟨w.heap.size, 2, none⟩ (.int .i64 K.m)).setCell ⟨w.heap.size, 3, none⟩ (.slice A13 K2.ps.length c13)).setCell ⟨w.heap.size, 4, none⟩ (.int .i64 K.base)).setCell ⟨w.heap.size, 5, none⟩ (.int .i64 K2.last)) := by
  subst hn h8 h9
  have e1 : K2.o = K.o := by rw [hK2, Kn.step_o]
  have e2 : K2.l = K.l := by rw [hK2, Kn.step_l]
  have e3 : K2.m = K.m := by rw [hK2, Kn.step_m]
  have e4 : K2.base = K.base := by rw [hK2, Kn.step_base]
  have el : (cs ++ [C]).length = cs.length + 1 := by simp
  refine ⟨K2, cs ++ [C], a + wn, sz2, f, A13, c13, rfl, rfl, hK2 ▸ hK.step hok, e1.trans hKo, hz2, by rw [el]; exact hl, hal, by omega, ?_, ?_, ?_, ?_, bel_put6 hB (Nat.le_refl _) _ _ _ _ _ _⟩
  · rw [hrd, el, hK2]; simp
  · rw [e1, e2, e3, e4]; exact kb.put6 _ _ _ _ _ _
  · exact .inr (own_mono (own_put6 ho kb tykn_tp _ _ _ _ _ _) hB')
  · rw [el]; exact own_put6 o7 kb tykn_ti _ _ _ _ _ _
section
variable (k : Kn) (A : Option Addr) (cap L : Nat) (w : World) (h : PsAt w L A cap k.ps) (hL : L ≤ w.heap.size) (hw : k.Wf) (s : ByteArray)

include h hL hw

end
end Go.Proofs.Ytfklkepodpcdgaa
