/- Contracts of the model's own drawing of arguments: what is known, and codes. -/
import Derived.Test.YtophlgnmfhoeiaaDd
namespace Go.Proofs.Ytophlgnmfhoeiaa
open Go.ChangeShapes Go.WideShapes Go.ChangeAt Go.RowKit Go.Joins
set_option linter.unusedVariables false

/-- what is known and a string, drawn -/
def AKnownStr (w : World) (e : Ending) (w' : World) : Prop := ∃ (k : Kn) (A : Option Addr) (cap : Nat) (s : ByteArray), e = .returned (.tuple #[.agg #[.int .i64 k.o, .int .i64 k.l, .int .i64 k.m, .slice A k.ps.length cap, .int .i64 k.base, .int .i64 k.last], .string s]) ∧ k.Wf ∧ k.ps.length ≤ 1000 ∧ s.size ≤ 5000 ∧ w'.ownsRow w.heap.size 139 2 (.slice A k.ps.length cap) k.ps.length (prs k.ps) ∧ Below w.heap.size w w'
theorem codeAt_mono {w : World} {L L' n cap : Nat} {A : Option Addr} (h : CodeAt w L A n cap) (hL : L ≤ L') : CodeAt w L' A n cap :=
  ⟨h.1, h.2.1, fun h0 => by
    obtain ⟨b, off, e, hb, hc⟩ := h.2.2 h0
    exact ⟨b, off, e, by omega, hc⟩⟩
set_option maxHeartbeats 4000000 in
set_option maxRecDepth 100000 in
theorem c_DrawPackCodes (A' : Option Addr) (n cap' : Nat) (w : World) (hc : CodeAt w w.heap.size A' n cap') : Calls Try.prog 45 #[.slice A' n cap'] w (AKnownCodes w) := by
  have k0 := Blk.new w 32 #[.int .i64 0, .int .i64 0, .int .i64 0, .slice none 0 0, .int .i64 0, .int .i64 0]
  have HCo := hid (codeAt_mono (hc.keep (fun k hk => Below.heap_alloc w (.cells #[.int .i64 0, .int .i64 0, .int .i64 0, .slice none 0 0, .int .i64 0, .int .i64 0] 32) k (by omega))) (show w.heap.size ≤ (w.alloc (.cells #[.int .i64 0, .int .i64 0, .int .i64 0, .slice none 0 0, .int .i64 0, .int .i64 0] 32)).heap.size by simp))
  clear hc
  go_enter Try.func45, Try.ntmps45
  go_wp2_with fail
  refine (c_DrawCodesValid _ _ _ _ HCo.out).mono ?_
  rintro e w1 ⟨k, A, cap, cs, A2, cap2, rfl, hw, hl, hcl, hbd, ho1, hoc, hb1⟩
  have hbd1 : Below w.heap.size w w1 := bel_trans (bel_alloc (Below.refl _ _) _) hb1
  have HX := hid (k0.on hb1)
  have HO := hid (own_mono ho1 (show w.heap.size ≤ (w.alloc (.cells #[.int .i64 0, .int .i64 0, .int .i64 0, .slice none 0 0, .int .i64 0, .int .i64 0] 32)).heap.size by simp))
  have HC := hid (own_mono hoc (show w.heap.size ≤ (w.alloc (.cells #[.int .i64 0, .int .i64 0, .int .i64 0, .slice none 0 0, .int .i64 0, .int .i64 0] 32)).heap.size by simp))
  clear HCo k0 hb1 ho1 hoc 
  obtain ⟨r0, r1, r2, r3, r4, r5⟩ := HX.out.cells6
  obtain ⟨f0, f1, f2, f3, f4, f5⟩ := HX.out.free6
  obtain ⟨j0, j1, j2, j3, j4, j5⟩ := (HX.out.put6 (.int .i64 k.o) (.int .i64 k.l) (.int .i64 k.m) (.slice A k.ps.length cap) (.int .i64 k.base) (.int .i64 k.last)).cells6
  have HQ := hid (show AKnownCodes w (.returned (.tuple #[.agg #[.int .i64 k.o, .int .i64 k.l, .int .i64 k.m, .slice A k.ps.length cap, .int .i64 k.base, .int .i64 k.last], .slice A2 cs.length cap2])) _ from ⟨k, A, cap, cs, A2, cap2, rfl, hw, hl, hcl, hbd, own_mono (own_put6 HO.out HX.out tykn_tp (.int .i64 k.o) (.int .i64 k.l) (.int .i64 k.m) (.slice A k.ps.length cap) (.int .i64 k.base) (.int .i64 k.last)) (by omega), own_mono (own_put6 HC.out HX.out tykn_ti (.int .i64 k.o) (.int .i64 k.l) (.int .i64 k.m) (.slice A k.ps.length cap) (.int .i64 k.base) (.int .i64 k.last)) (by omega), by (repeat (first | with_reducible (first | assumption | exact Below.refl _ _ | refine bel_alloc ?_ _ | refine bel_drew ?_ | refine bel_drewN ?_ _ | refine bel_set ?_ (by first | omega | (simp; done) | (simp; omega)) _ | refine bel_trans ?_ (by assumption)) | assumption | refine bel_trans ?_ (by assumption)))⟩)
  clear HO hbd1
  go_wp2
  exact bodyPost_ret (v := .tuple #[.agg #[.int .i64 k.o, .int .i64 k.l, .int .i64 k.m, .slice A k.ps.length cap, .int .i64 k.base, .int .i64 k.last], .slice A2 cs.length cap2]) (by simp [results, Try.results45, go_sem, j0, j1, j2, j3, j4, j5]) rfl HQ.out

set_option maxHeartbeats 4000000 in
set_option maxRecDepth 100000 in
theorem c_DrawCodesData (A' : Option Addr) (n cap' : Nat) (w : World) (hc : CodeAt w w.heap.size A' n cap') : Calls Try.prog 37 #[.slice A' n cap'] w (AKnownCodes w) := by
  have k0 := Blk.new w 32 #[.int .i64 0, .int .i64 0, .int .i64 0, .slice none 0 0, .int .i64 0, .int .i64 0]
  have HCo := hid (codeAt_mono (hc.keep (fun k hk => Below.heap_alloc w (.cells #[.int .i64 0, .int .i64 0, .int .i64 0, .slice none 0 0, .int .i64 0, .int .i64 0] 32) k (by omega))) (show w.heap.size ≤ (w.alloc (.cells #[.int .i64 0, .int .i64 0, .int .i64 0, .slice none 0 0, .int .i64 0, .int .i64 0] 32)).heap.size by simp))
  clear hc
  go_enter Try.func37, Try.ntmps37
  go_wp2_with fail
  refine (c_DrawCodesValid _ _ _ _ HCo.out).mono ?_
  rintro e w1 ⟨k, A, cap, cs, A2, cap2, rfl, hw, hl, hcl, hbd, ho1, hoc, hb1⟩
  have hbd1 : Below w.heap.size w w1 := bel_trans (bel_alloc (Below.refl _ _) _) hb1
  have HX := hid (k0.on hb1)
  have HO := hid (own_mono ho1 (show w.heap.size ≤ (w.alloc (.cells #[.int .i64 0, .int .i64 0, .int .i64 0, .slice none 0 0, .int .i64 0, .int .i64 0] 32)).heap.size by simp))
  have HC := hid (own_mono hoc (show w.heap.size ≤ (w.alloc (.cells #[.int .i64 0, .int .i64 0, .int .i64 0, .slice none 0 0, .int .i64 0, .int .i64 0] 32)).heap.size by simp))
  clear HCo k0 hb1 ho1 hoc 
  obtain ⟨r0, r1, r2, r3, r4, r5⟩ := HX.out.cells6
  obtain ⟨f0, f1, f2, f3, f4, f5⟩ := HX.out.free6
  obtain ⟨j0, j1, j2, j3, j4, j5⟩ := (HX.out.put6 (.int .i64 k.o) (.int .i64 k.l) (.int .i64 k.m) (.slice A k.ps.length cap) (.int .i64 k.base) (.int .i64 k.last)).cells6
  have HQ := hid (show AKnownCodes w (.returned (.tuple #[.agg #[.int .i64 k.o, .int .i64 k.l, .int .i64 k.m, .slice A k.ps.length cap, .int .i64 k.base, .int .i64 k.last], .slice A2 cs.length cap2])) _ from ⟨k, A, cap, cs, A2, cap2, rfl, hw, hl, hcl, hbd, own_mono (own_put6 HO.out HX.out tykn_tp (.int .i64 k.o) (.int .i64 k.l) (.int .i64 k.m) (.slice A k.ps.length cap) (.int .i64 k.base) (.int .i64 k.last)) (by omega), own_mono (own_put6 HC.out HX.out tykn_ti (.int .i64 k.o) (.int .i64 k.l) (.int .i64 k.m) (.slice A k.ps.length cap) (.int .i64 k.base) (.int .i64 k.last)) (by omega), by (repeat (first | with_reducible (first | assumption | exact Below.refl _ _ | refine bel_alloc ?_ _ | refine bel_drew ?_ | refine bel_drewN ?_ _ | refine bel_set ?_ (by first | omega | (simp; done) | (simp; omega)) _ | refine bel_trans ?_ (by assumption)) | assumption | refine bel_trans ?_ (by assumption)))⟩)
  clear HO hbd1
  go_wp2
  exact bodyPost_ret (v := .tuple #[.agg #[.int .i64 k.o, .int .i64 k.l, .int .i64 k.m, .slice A k.ps.length cap, .int .i64 k.base, .int .i64 k.last], .slice A2 cs.length cap2]) (by simp [results, Try.results37, go_sem, j0, j1, j2, j3, j4, j5]) rfl HQ.out
end Go.Proofs.Ytophlgnmfhoeiaa
