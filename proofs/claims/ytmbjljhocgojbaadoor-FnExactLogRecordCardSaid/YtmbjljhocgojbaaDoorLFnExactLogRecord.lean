/-
  The law FnExactLogRecord returns true for every input. No condition. (The row's step around the walk.)
-/
import Derived.Test.YtmbjljhocgojbaaDoorRows
import Derived.Test.YtmbjljhocgojbaaDoorSigns
import Derived.Test.YtmbjljhocgojbaaDoorKh
import Derived.Test.YtmbjljhocgojbaaDoorCards
import Derived.Test.YtmbjljhocgojbaaDoorTie
import Derived.SevenTiedAt
import Derived.LaidMore
import Derived.OpenShut
import Derived.Stop.Joined
import Derived.Lay
import Derived.Stop.LaidErr
import Derived.HandedShaped
import Derived.Shelf.Vars
import Derived.Test.YtmbjljhocgojbaaDoorYl
import Derived.OpenVars
import Derived.Test.YtmbjljhocgojbaaDoorKc
namespace Go.Proofs.YtmbjljhocgojbaaDoor.fnExactLogRecord
open Go.ChangeShapes Go.WideShapes Go.ChangeAt Go.RowKit Go.Joins
open Go.ChangeMaps (open_string shut_string)
set_option linter.unusedVariables false

theorem own : ownKnob Tryd.prog.godebug = none := own_knob
theorem laidOut : laidOutB Tryd.prog = true := laid_out

theorem laidFact {W : World} (hL : laidMetH Tryd.prog Rows.fnExactLogRecordRow.laid W) : Lay W := by
  rw [MakeChecks.laidMetH_plain _ _ _ (by kernel_rfl)] at hL
  exact lay_of (by kernel_rfl) (by kernel_rfl) hL.tail.tail.tail

theorem frmFact {W : World} (hL : laidMetH Tryd.prog Rows.fnExactLogRecordRow.laid W) : Frm W := by
  rw [MakeChecks.laidMetH_plain _ _ _ (by kernel_rfl)] at hL
  exact frm_of (by kernel_rfl) (by kernel_rfl) hL.tail.tail.tail.tail

set_option maxRecDepth 100000 in
theorem lifted (os : Os) (started : os.Started) (H : Type) (enc : TypeId × Value → H) :
    ReturnsInHanded {} Tryd.checked os 4 .any (fun w args => (Rows.fnExactLogRecordSpec.pre enc Tryd.prog Tryd.f4 [] false w args ∧ laidMetH Tryd.prog Rows.fnExactLogRecordRow.laid w) ∧ sizedMet enc Tryd.prog Tryd.f4 (OpenSpec.ofChange Rows.fnExactLogRecordSpec) false w args)
      (Rows.fnExactLogRecordSpec.post enc Tryd.prog Tryd.f4 false true false false) := by
  refine returnsInHanded_of_change_and (C := Tryd.checked) (X := fun w _ => laidMetH Tryd.prog Rows.fnExactLogRecordRow.laid w) (fun _ _ _ hh h => h.of_heap hh) own started (by kernel_rfl) Tryd.func4
    (ChangeSpec.witness_shaped (enc := enc) (C := Tryd.checked) (os := os) (X := fun w _ => laidMetH Tryd.prog Rows.fnExactLogRecordRow.laid w) false (World.laidAll Tryd.prog os Rows.fnExactLogRecordRow.laid) #[.agg #[.int .i64 0, .string ByteArray.empty, .int .i64 0, .int .i64 0, .int .i64 0, .string ByteArray.empty]] 8 (World.laidAll_os _ _ _) (World.shaped_of_ZipB (by kernel_rfl) (by kernel_rfl)) (by kernel_rfl) (by kernel_rfl) (by kernel_rfl)
      (by rw [MakeChecks.laidMetH_plain _ _ _ (by kernel_rfl)]; exact laidMet_laidAll _ (by kernel_rfl) (by kernel_rfl))) ?_
  intro W base args ds gs before hval0 hW _ _ hL _
  have hval : ∀ (j : Nat) t v, Tryd.f4.params[j]? = some t → args[j]? = some v → Value.okWide Tryd.prog W .any base t v := hval0
  have hW' := hW
  obtain ⟨p, q, hA0, hV, rfl, hfz, hnd⟩ := hW
  have hA : DataW.TrodAll enc Tryd.prog W 0 (fun _ => true) true Tryd.f4.params.toList args.toList ds p := hA0
  rw [Tryd.params4] at hA hval
  obtain ⟨v0, vs0, d0, ds0, p0, q0, hargs, rfl, rfl, h0, r0⟩ := trodAll_cons hA
  obtain ⟨rfl, rfl, rfl⟩ := trodAll_nil r0
  obtain rfl : args = #[v0] := by cases args; simp_all
  have hgl : gs.length = 2 := vars_len hV
  obtain ⟨z0, z1, rfl⟩ : ∃ z0 z1, gs = [z0, z1] := by
    match gs, hgl with
    | [z0, z1], _ => exact ⟨z0, z1, rfl⟩
  have k0 := h0
  have lt0 : ∀ x ∈ p0, x.block < W.heap.size := by obtain ⟨m, hm⟩ := k0; exact DataW.trod_lt m _ _ _ hm
  obtain ⟨zk0, zn0, zf0, zt0, zs0, zd0, rfl, wk0, wn0, wf0, wt0, ws0, wd0⟩ := open_op (hval 0 23 v0 rfl rfl) h0
  clear hA0 hval0
  have hLy := laidFact hL
  have hFm := frmFact hL
  rw [MakeChecks.laidMetH_plain _ _ _ (by kernel_rfl)] at hL
  have hTab : Tab W := fun v hb n h0 h1 => itoaOf h0 (Any.strconv_Itoa Tryd.laysM171 n (by omega) (by omega) v (tabOn (Lib.tabIs_of_head (by kernel_rfl : _ = some 3) (by kernel_rfl : _ = some 75) Tryd.underlying75 Tryd.underlying68 (by kernel_rfl) (by kernel_rfl) hL.tail.tail) hb))
  refine (walk_FnExactLogRecord zk0 zn0 zf0 zt0 zs0 zd0 W wk0 wn0 wf0 wt0 ws0 wd0 hLy hFm hTab).mono fun e W' ⟨he, bel⟩ => ?_
  subst he
  exact ⟨_, rfl, _, _, _, [], _, _, hW', trodAll_mk1 (shut_bool Tryd.underlying4 _), (trodAll_cons_mk (Below.trod laidOut (by kernel_rfl) (of_decide_eq_true (by kernel_rfl)) k0 bel lt0) trodAll_mk0), Below.trodVars laidOut bel (by kernel_rfl) hV, bel.frame _, fun h => by cases h⟩

theorem joined : joinedFacts Tryd.prog 4 Tryd.f4 Rows.fnExactLogRecordSpec Rows.fnExactLogRecordRow = true := by
  unfold joinedFacts
  rw [make_cut, may_enter, lifts_fin]
  kernel_rfl

theorem over : Rows.fnExactLogRecordRow.holds Tryd.pinned (OpenSpec.ofChange Rows.fnExactLogRecordSpec) :=
  OpenClaim.holds_of_wide 4 Tryd.f4 rfl rfl rfl rfl rfl rfl rfl ⟨rfl, rfl, rfl, rfl, rfl⟩ rfl rfl rfl rfl rfl (by kernel_rfl) Tryd.func4 joined
    (of_decide_eq_true (by kernel_rfl)) (by unfold Func.isWrapper; first | (rw [if_pos (by decide +kernel)]; kernel_rfl) | (rw [if_neg (by decide +kernel)]; exact ⟨rfl, rfl⟩))
    (fun os started H enc _ => lifted os started H enc)

theorem proved : Rows.FnExactLogRecordCardSaid :=
  Claim7.holds_tied_plain_at .later [] [.data, .data, .data, .wider, .wider] true (true, "550434452fdbac99dcc12d78edf0078e5dac8f4a5f0eb6516a0b2a1cc95e130f") false
    over (fun _ h => by cases h) (by kernel_rfl) (fun _ h => by cases h) fnExactLogRecord_row_tie rfl ⟨rfl, rfl⟩ (by kernel_rfl) rfl
    (fun f fn hf hfn => by
      obtain rfl : f = 4 := Option.some.inj ((show Tryd.prog.funcNamed Rows.fnExactLogRecordRow.func = some 4 by kernel_rfl).symm.trans hf) |>.symm
      obtain rfl : fn = Tryd.f4 := (Option.some.inj (Tryd.func4.symm.trans hfn)).symm
      exact ⟨by kernel_rfl, fun j t ht => by
        rw [Tryd.params4] at ht
        have hm : t ∈ [23] := by simpa using Array.mem_of_getElem? ht
        have hall : ([23].all fun u => !Tryd.prog.wantsStandIn u) = true := by kernel_rfl
        exact (show Tryd.prog.wantsStandIn t = false by simpa using List.all_eq_true.1 hall t hm)⟩)
    (by kernel_rfl)
end Go.Proofs.YtmbjljhocgojbaaDoor.fnExactLogRecord
