/-
  The law FnExactParseReader returns true for every input. No condition. (The row's step around the walk.)
-/
import Derived.Test.YtmfnfheahehpcaaGreatDoorRows
import Derived.Test.YtmfnfheahehpcaaGreatDoorSigns
import Derived.Test.YtmfnfheahehpcaaGreatDoorMj
import Derived.Test.YtmfnfheahehpcaaGreatDoorCards
import Derived.Test.YtmfnfheahehpcaaGreatDoorTie
import Derived.SevenTiedAt
import Derived.LaidMore
import Derived.OpenShut
import Derived.Stop.Joined
import Derived.Lay
import Derived.Stop.LaidErr
import Derived.HandedShaped
import Derived.Shelf.Vars
namespace Go.Proofs.YtmfnfheahehpcaaGreatDoor.fnExactParseReader
open Go.ChangeShapes Go.WideShapes Go.ChangeAt Go.RowKit Go.Joins
open Go.ChangeMaps (open_string shut_string)
set_option linter.unusedVariables false

theorem own : ownKnob Tryz.prog.godebug = none := own_knob
theorem laidOut : laidOutB Tryz.prog = true := laid_out

/-- the cells of the two error values, and the library's own number, out of what is listed and of the world's shape -/
theorem err_row (nm : String) (u : TypeId) (hn : Tryz.prog.typeName? 3 145 = some nm) (h : Tryz.prog.typeName? 3 u = some nm) : u = 145 :=
  typeName_ptr_named (nm := "errors.errorString") (by kernel_rfl) (by kernel_rfl) (by decide) u (h.trans (hn.symm.trans (by kernel_rfl)))
theorem errs {W : World} (hL : laidMetH Tryz.prog Rows.fnExactParseReaderRow.laid W) : ErrAt W := by
  rw [MakeChecks.laidMetH_plain _ _ _ (by kernel_rfl)] at hL
  have hL2 := hL.tail.tail.tail.tail
  obtain ⟨b0, s0, q0, _⟩ := laid_sentinel hL2 (by kernel_rfl : _ = some 1) (by kernel_rfl : _ = some 62) Tryz.underlying62 (fun u h => err_row _ u (by kernel_rfl) h) Tryz.underlying145 Tryz.underlying147 rfl rfl Tryz.underlying9 (by kernel_rfl) (by kernel_rfl)
  obtain ⟨b1, s1, q1, _⟩ := laid_sentinel hL2.tail (by kernel_rfl : _ = some 0) (by kernel_rfl : _ = some 62) Tryz.underlying62 (fun u h => err_row _ u (by kernel_rfl) h) Tryz.underlying145 Tryz.underlying147 rfl rfl Tryz.underlying9 (by kernel_rfl) (by kernel_rfl)
  have c0 := World.var?_cell (by kernel_rfl : _ = some 1) q0 0
  have c1 := World.var?_cell (by kernel_rfl : _ = some 0) q1 0
  exact ⟨_, _, by simpa using c1, .inr ⟨_, _, rfl⟩, by simpa using c0, .inr ⟨_, _, rfl⟩⟩
theorem own_number {W : World} (h : W.ShapedOpen Tryz.prog) : ∃ m, W.cell? ⟨3, 0, none⟩ = some (.int .i64 m) :=
  cell_of_shapedOpen_int (zero := #[.int .i64 0]) h (of_decide_eq_true (by kernel_rfl)) (by kernel_rfl) rfl (by kernel_rfl) (by kernel_rfl) Tryz.underlying3

set_option maxRecDepth 100000 in
theorem lifted (os : Os) (started : os.Started) (H : Type) (enc : TypeId × Value → H) :
    ReturnsInHanded {} Tryz.checked os 5 .any (fun w args => (Rows.fnExactParseReaderSpec.pre enc Tryz.prog Tryz.f5 [] false w args ∧ laidMetH Tryz.prog Rows.fnExactParseReaderRow.laid w) ∧ sizedMet enc Tryz.prog Tryz.f5 (OpenSpec.ofChange Rows.fnExactParseReaderSpec) false w args)
      (Rows.fnExactParseReaderSpec.post enc Tryz.prog Tryz.f5 false true false false) := by
  refine returnsInHanded_of_calls own started (by kernel_rfl)
    (ChangeSpec.witness_shaped (enc := enc) (C := Tryz.checked) (os := os) (X := fun w _ => laidMetH Tryz.prog Rows.fnExactParseReaderRow.laid w) false (World.laidAll Tryz.prog os Rows.fnExactParseReaderRow.laid) #[.string ByteArray.empty] 8 (World.laidAll_os _ _ _) (World.shaped_of_ZipB (by kernel_rfl) (by kernel_rfl)) (by kernel_rfl) (by kernel_rfl) (by kernel_rfl)
      (by rw [MakeChecks.laidMetH_plain _ _ _ (by kernel_rfl)]; exact laidMet_laidAll _ (by kernel_rfl) (by kernel_rfl))) ?_
  intro w tape i _ hsh _ hok hpre _
  obtain ⟨_, _, _, fn, hfn, _, _, _, _, hval1⟩ := hok
  obtain rfl : Tryz.f5 = fn := Option.some.inj (Tryz.func5.symm.trans hfn)
  obtain ⟨⟨⟨ds0, gs0, before0, hw0, _⟩, hx⟩, _⟩ := hpre
  have same := DataW.Whole.of_heap (w' := w.forCall tape i) (by rfl) hw0
  have hlaid : laidMetH Tryz.prog Rows.fnExactParseReaderRow.laid (w.forCall tape i) := hx.of_heap (by rfl)
  suffices key : ∀ (W : World) (args : Array Value) (ds gs : List (DataW H)) (before : List MemPlace), (∀ (j : Nat) t v, Tryz.f5.params[j]? = some t → args[j]? = some v → Value.okWide Tryz.prog W .any w.heap.size t v) → DataW.Whole enc Tryz.prog Tryz.f5.params.toList Rows.fnExactParseReaderSpec.vars false W args.toList ds gs before → laidMetH Tryz.prog Rows.fnExactParseReaderRow.laid W → W.ShapedOpen Tryz.prog →
      Calls Tryz.prog 5 args W fun e W' => ∃ v, e = .returned v ∧ Rows.fnExactParseReaderSpec.post enc Tryz.prog Tryz.f5 false true false false W args v W' from
    (key (w.forCall tape i) i.args ds0 gs0 before0 hval1 same hlaid hsh).mono fun e W' ⟨v, he, hp⟩ => by subst he; exact ChangeSpec.post_blind hp
  clear same hlaid hw0 hx hval1 hsh
  intro W args ds gs before hval0 hW hL hsh
  have hval : ∀ (j : Nat) t v, Tryz.f5.params[j]? = some t → args[j]? = some v → Value.okWide Tryz.prog W .any w.heap.size t v := hval0
  have hW' := hW
  obtain ⟨p, q, hA0, hV, rfl, hfz, hnd⟩ := hW
  have hA : DataW.TrodAll enc Tryz.prog W 0 (fun _ => true) true Tryz.f5.params.toList args.toList ds p := hA0
  rw [Tryz.params5] at hA hval
  have hE := errs hL
  obtain ⟨mm, hm⟩ := own_number hsh
  obtain ⟨v0, vs0, d0, ds0, p0, q0, hargs, rfl, rfl, h0, r0⟩ := trodAll_cons hA
  obtain ⟨rfl, rfl, rfl⟩ := trodAll_nil r0
  obtain rfl : args = #[v0] := by cases args; simp_all
  obtain ⟨rfl, rfl⟩ := trodVars_none hV
  have k0 := h0
  have lt0 : ∀ x ∈ p0, x.block < W.heap.size := by obtain ⟨m, hm⟩ := k0; exact DataW.trod_lt m _ _ _ hm
  obtain ⟨a0, rfl, _, _, w0⟩ := open_string Tryz.underlying9 (hval 0 9 v0 rfl rfl) h0
  simp only [List.append_nil] at hW'
  clear hA0 hval0
  rw [MakeChecks.laidMetH_plain _ _ _ (by kernel_rfl)] at hL
  have hTab : TabN W := fun v hb n h0 h1 => itoaOfN (Any.strconv_Itoa Tryz.laysM171 n (by omega) (by omega) v (tabOn (Lib.tabIs_of_head (by kernel_rfl : _ = some 2) (by kernel_rfl : _ = some 140) Tryz.underlying140 Tryz.underlying122 (by kernel_rfl) (by kernel_rfl) hL.tail.tail) hb))
  refine (walk_FnExactParseReader a0 W w0 hE mm hm hTab).mono fun e W' ⟨he, bel⟩ => ?_
  subst he
  exact ⟨_, rfl, _, _, _, [], _, [], hW', trodAll_mk1 (shut_bool Tryz.underlying4 _), (trodAll_cons_mk (Below.trod laidOut (by kernel_rfl) (of_decide_eq_true (by kernel_rfl)) k0 bel lt0) trodAll_mk0), rfl, bel.frame _, fun h => by cases h⟩

theorem joined : joinedFacts Tryz.prog 5 Tryz.f5 Rows.fnExactParseReaderSpec Rows.fnExactParseReaderRow = true := by
  unfold joinedFacts
  rw [make_cut, may_enter, lifts_fin]
  kernel_rfl

theorem over : Rows.fnExactParseReaderRow.holds Tryz.pinned (OpenSpec.ofChange Rows.fnExactParseReaderSpec) :=
  OpenClaim.holds_of_wide 5 Tryz.f5 rfl rfl rfl rfl rfl rfl rfl ⟨rfl, rfl, rfl, rfl, rfl⟩ rfl rfl rfl rfl rfl (by kernel_rfl) Tryz.func5 joined
    (of_decide_eq_true (by kernel_rfl)) (by unfold Func.isWrapper; first | (rw [if_pos (by decide +kernel)]; kernel_rfl) | (rw [if_neg (by decide +kernel)]; exact ⟨rfl, rfl⟩))
    (fun os started H enc _ => lifted os started H enc)

theorem proved : Rows.FnExactParseReaderCardSaid :=
  Claim7.holds_tied_plain_at .later [] [.data, .data, .data, .data, .sentinel, .sentinel, .pinned] true (true, "f13eeda1c506d2278ba081e6e6a3bce8fdb9dda1d351ad23357c70e81e145d5a") true
    over (fun _ h => by cases h) (by kernel_rfl) (fun _ h => by cases h) fnExactParseReader_row_tie rfl ⟨rfl, rfl⟩ (by kernel_rfl) rfl
    (fun f fn hf hfn => by
      obtain rfl : f = 5 := Option.some.inj ((show Tryz.prog.funcNamed Rows.fnExactParseReaderRow.func = some 5 by kernel_rfl).symm.trans hf) |>.symm
      obtain rfl : fn = Tryz.f5 := (Option.some.inj (Tryz.func5.symm.trans hfn)).symm
      exact ⟨by kernel_rfl, fun j t ht => by
        rw [Tryz.params5] at ht
        have hm : t ∈ [9] := by simpa using Array.mem_of_getElem? ht
        have hall : ([9].all fun u => !Tryz.prog.wantsStandIn u) = true := by kernel_rfl
        exact (show Tryz.prog.wantsStandIn t = false by simpa using List.all_eq_true.1 hall t hm)⟩)
    (by kernel_rfl)
end Go.Proofs.YtmfnfheahehpcaaGreatDoor.fnExactParseReader
