/-
  The law FnExactCheckContainer returns true for every input. No condition. (The row's step around the walk.)
-/
import Derived.Test.YtepbjmpbcobfpabDoorRows
import Derived.Test.YtepbjmpbcobfpabDoorSigns
import Derived.Test.YtepbjmpbcobfpabDoorJm
import Derived.Test.YtepbjmpbcobfpabDoorCards
import Derived.Test.YtepbjmpbcobfpabDoorTie
import Derived.SevenTiedAt
import Derived.LaidMore
import Derived.OpenShut
import Derived.Stop.Joined
import Derived.Lay
import Derived.Stop.LaidErr
import Derived.HandedShaped
import Derived.Shelf.Vars
import Derived.Test.YtepbjmpbcobfpabDoorYe
import Derived.Test.YtepbjmpbcobfpabDoorYl
import Derived.OpenVars
namespace Go.Proofs.YtepbjmpbcobfpabDoor.fnExactCheckContainer
open Go.ChangeShapes Go.WideShapes Go.ChangeAt Go.RowKit Go.Joins
open Go.ChangeMaps (open_string shut_string)
set_option linter.unusedVariables false

theorem own : ownKnob Tryd.prog.godebug = none := own_knob
theorem laidOut : laidOutB Tryd.prog = true := laid_out

theorem err_row (nm : String) (u : TypeId) (hn : Tryd.prog.typeName? 3 79 = some nm) (h : Tryd.prog.typeName? 3 u = some nm) : u = 79 :=
  typeName_ptr_named (nm := "errors.errorString") (by kernel_rfl) (by kernel_rfl) (by decide) u (h.trans (hn.symm.trans (by kernel_rfl)))
theorem laidFact {W : World} (hL : laidMetH Tryd.prog Rows.fnExactCheckContainerRow.laid W) : ∃ e0 e1 e2, Glob3 W e0 e1 e2 := by
  rw [MakeChecks.laidMetH_plain _ _ _ (by kernel_rfl)] at hL
  obtain ⟨b0, b1, b2, q0, q1, q2, n01, n02, n12, m0, m1, m2⟩ := laid3 hL (by kernel_rfl : _ = some 0) (by kernel_rfl : _ = some 35) (by kernel_rfl : _ = some 1) (by kernel_rfl : _ = some 35) (by kernel_rfl : _ = some 2) (by kernel_rfl : _ = some 35) Tryd.underlying35 (fun u h => err_row _ u (by kernel_rfl) h) Tryd.underlying79 Tryd.underlying106 rfl rfl Tryd.underlying9 (by kernel_rfl) (by kernel_rfl)
  have c0 := World.var?_cell (by kernel_rfl : _ = some 0) q0 0
  have c1 := World.var?_cell (by kernel_rfl : _ = some 1) q1 0
  have c2 := World.var?_cell (by kernel_rfl : _ = some 2) q2 0
  exact ⟨b0, b1, b2, ⟨lay_of (by kernel_rfl) (by kernel_rfl) hL.tail.tail.tail, by simpa [errV] using c0, by simpa [errV] using c1, by simpa [errV] using c2⟩, m0, m1, m2, n01, n02, n12⟩

set_option maxRecDepth 100000 in
theorem lifted (os : Os) (started : os.Started) (H : Type) (enc : TypeId × Value → H) :
    ReturnsInHanded {} Tryd.checked os 4 .any (fun w args => (Rows.fnExactCheckContainerSpec.pre enc Tryd.prog Tryd.f4 [] false w args ∧ laidMetH Tryd.prog Rows.fnExactCheckContainerRow.laid w) ∧ sizedMet enc Tryd.prog Tryd.f4 (OpenSpec.ofChange Rows.fnExactCheckContainerSpec) false w args)
      (Rows.fnExactCheckContainerSpec.post enc Tryd.prog Tryd.f4 false true false false) := by
  refine returnsInHanded_of_change_and (C := Tryd.checked) (X := fun w _ => laidMetH Tryd.prog Rows.fnExactCheckContainerRow.laid w) (fun _ _ _ hh h => h.of_heap hh) own started (by kernel_rfl) Tryd.func4
    (ChangeSpec.witness_shaped (enc := enc) (C := Tryd.checked) (os := os) (X := fun w _ => laidMetH Tryd.prog Rows.fnExactCheckContainerRow.laid w) false (World.laidAll Tryd.prog os Rows.fnExactCheckContainerRow.laid) #[.string ByteArray.empty] 8 (World.laidAll_os _ _ _) (World.shaped_of_ZipB (by kernel_rfl) (by kernel_rfl)) (by kernel_rfl) (by kernel_rfl) (by kernel_rfl)
      (by rw [MakeChecks.laidMetH_plain _ _ _ (by kernel_rfl)]; exact laidMet_laidAll _ (by kernel_rfl) (by kernel_rfl))) ?_
  intro W base args ds gs before hval0 hW _ _ hL _
  have hval : ∀ (j : Nat) t v, Tryd.f4.params[j]? = some t → args[j]? = some v → Value.okWide Tryd.prog W .any base t v := hval0
  have hW' := hW
  obtain ⟨p, q, hA0, hV, rfl, hfz, hnd⟩ := hW
  have hA : DataW.TrodAll enc Tryd.prog W 0 (fun _ => true) true Tryd.f4.params.toList args.toList ds p := hA0
  rw [Tryd.params4] at hA hval
  obtain ⟨v0, vs0, d0, ds0, p0, q0, hargs, rfl, rfl, h0, r0⟩ := trodAll_cons hA
  obtain ⟨rfl, rfl, rfl⟩ := trodAll_nil r0
  obtain rfl : args = #[v0] := by cases args; simp_all
  have hgl : gs.length = 4 := vars_len hV
  obtain ⟨z0, z1, z2, z3, rfl⟩ : ∃ z0 z1 z2 z3, gs = [z0, z1, z2, z3] := by
    match gs, hgl with
    | [z0, z1, z2, z3], _ => exact ⟨z0, z1, z2, z3, rfl⟩
  have k0 := h0
  have lt0 : ∀ x ∈ p0, x.block < W.heap.size := by obtain ⟨m, hm⟩ := k0; exact DataW.trod_lt m _ _ _ hm
  obtain ⟨a0, rfl, _, _, w0⟩ := open_string Tryd.underlying9 (hval 0 9 v0 rfl rfl) h0
  clear hA0 hval0
  obtain ⟨_, _, _, hGl⟩ := laidFact hL
  refine (walk_FnExactCheckContainer a0 W w0 hGl).mono fun e W' ⟨he, bel⟩ => ?_
  subst he
  exact ⟨_, rfl, _, _, _, [], _, _, hW', trodAll_mk1 (shut_bool Tryd.underlying4 _), (trodAll_cons_mk (Below.trod laidOut (by kernel_rfl) (of_decide_eq_true (by kernel_rfl)) k0 bel lt0) trodAll_mk0), Below.trodVars laidOut bel (by kernel_rfl) hV, bel.frame _, fun h => by cases h⟩

theorem joined : joinedFacts Tryd.prog 4 Tryd.f4 Rows.fnExactCheckContainerSpec Rows.fnExactCheckContainerRow = true := by
  unfold joinedFacts
  rw [make_cut, may_enter, lifts_fin]
  kernel_rfl

theorem over : Rows.fnExactCheckContainerRow.holds Tryd.pinned (OpenSpec.ofChange Rows.fnExactCheckContainerSpec) :=
  OpenClaim.holds_of_wide 4 Tryd.f4 rfl rfl rfl rfl rfl rfl rfl ⟨rfl, rfl, rfl, rfl, rfl⟩ rfl rfl rfl rfl rfl (by kernel_rfl) Tryd.func4 joined
    (of_decide_eq_true (by kernel_rfl)) (by unfold Func.isWrapper; first | (rw [if_pos (by decide +kernel)]; kernel_rfl) | (rw [if_neg (by decide +kernel)]; exact ⟨rfl, rfl⟩))
    (fun os started H enc _ => lifted os started H enc)

theorem proved : Rows.FnExactCheckContainerCardSaid :=
  Claim7.holds_tied_plain_at .later [] [.sentinel, .sentinel, .sentinel, .wider] true (true, "80f7753ef1a2daa02b305b9f3402434b2bc63372c694d4c08919f4148c85a005") true
    over (fun _ h => by cases h) (by kernel_rfl) (fun _ h => by cases h) fnExactCheckContainer_row_tie rfl ⟨rfl, rfl⟩ (by kernel_rfl) rfl
    (fun f fn hf hfn => by
      obtain rfl : f = 4 := Option.some.inj ((show Tryd.prog.funcNamed Rows.fnExactCheckContainerRow.func = some 4 by kernel_rfl).symm.trans hf) |>.symm
      obtain rfl : fn = Tryd.f4 := (Option.some.inj (Tryd.func4.symm.trans hfn)).symm
      exact ⟨by kernel_rfl, fun j t ht => by
        rw [Tryd.params4] at ht
        have hm : t ∈ [9] := by simpa using Array.mem_of_getElem? ht
        have hall : ([9].all fun u => !Tryd.prog.wantsStandIn u) = true := by kernel_rfl
        exact (show Tryd.prog.wantsStandIn t = false by simpa using List.all_eq_true.1 hall t hm)⟩)
    (by kernel_rfl)
end Go.Proofs.YtepbjmpbcobfpabDoor.fnExactCheckContainer
