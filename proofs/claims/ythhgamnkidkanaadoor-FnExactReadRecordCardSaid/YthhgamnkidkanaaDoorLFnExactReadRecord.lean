/-
  The law FnExactReadRecord returns true for every input. No condition. (The row's step around the walk.)
-/
import Derived.Test.YthhgamnkidkanaaDoorRows
import Derived.Test.YthhgamnkidkanaaDoorSigns
import Derived.Test.YthhgamnkidkanaaDoorLq
import Derived.Test.YthhgamnkidkanaaDoorCards
import Derived.Test.YthhgamnkidkanaaDoorTie
import Derived.SevenTiedAt
import Derived.LaidMore
import Derived.OpenShut
import Derived.Stop.Joined
import Derived.Lay
import Derived.Stop.LaidErr
import Derived.HandedShaped
import Derived.Shelf.Vars
import Derived.Test.YthhgamnkidkanaaDoorYl
import Derived.OpenVars
namespace Go.Proofs.YthhgamnkidkanaaDoor.fnExactReadRecord
open Go.ChangeShapes Go.WideShapes Go.ChangeAt Go.RowKit Go.Joins
open Go.ChangeMaps (open_string shut_string)
set_option linter.unusedVariables false

theorem own : ownKnob Tryd.prog.godebug = none := own_knob
theorem laidOut : laidOutB Tryd.prog = true := laid_out

theorem laidFact {W : World} (hL : laidMetH Tryd.prog Rows.fnExactReadRecordRow.laid W) : Lay W := by
  rw [MakeChecks.laidMetH_plain _ _ _ (by kernel_rfl)] at hL
  exact lay_of (by kernel_rfl) (by kernel_rfl) hL.tail.tail.tail.tail.tail.tail

theorem frmFact {W : World} (hL : laidMetH Tryd.prog Rows.fnExactReadRecordRow.laid W) : Frm W := by
  rw [MakeChecks.laidMetH_plain _ _ _ (by kernel_rfl)] at hL
  exact frm_of (by kernel_rfl) (by kernel_rfl) hL.tail.tail.tail.tail.tail.tail.tail

/-- the cells of the two error values, and the library's own number, out of what is listed and of the world's shape -/
theorem err_row (nm : String) (u : TypeId) (hn : Tryd.prog.typeName? 3 113 = some nm) (h : Tryd.prog.typeName? 3 u = some nm) : u = 113 :=
  typeName_ptr_named (nm := "errors.errorString") (by kernel_rfl) (by kernel_rfl) (by decide) u (h.trans (hn.symm.trans (by kernel_rfl)))
theorem errs {W : World} (hL : laidMetH Tryd.prog Rows.fnExactReadRecordRow.laid W) : ErrAt W := by
  rw [MakeChecks.laidMetH_plain _ _ _ (by kernel_rfl)] at hL
  have hL2 := hL.tail.tail.tail.tail
  obtain ⟨b0, s0, q0, _⟩ := laid_sentinel hL2 (by kernel_rfl : _ = some 6) (by kernel_rfl : _ = some 64) Tryd.underlying64 (fun u h => err_row _ u (by kernel_rfl) h) Tryd.underlying113 Tryd.underlying115 rfl rfl Tryd.underlying9 (by kernel_rfl) (by kernel_rfl)
  obtain ⟨b1, s1, q1, _⟩ := laid_sentinel hL2.tail (by kernel_rfl : _ = some 5) (by kernel_rfl : _ = some 64) Tryd.underlying64 (fun u h => err_row _ u (by kernel_rfl) h) Tryd.underlying113 Tryd.underlying115 rfl rfl Tryd.underlying9 (by kernel_rfl) (by kernel_rfl)
  have c0 := World.var?_cell (by kernel_rfl : _ = some 6) q0 0
  have c1 := World.var?_cell (by kernel_rfl : _ = some 5) q1 0
  exact ⟨_, _, by simpa using c1, .inr ⟨_, _, rfl⟩, by simpa using c0, .inr ⟨_, _, rfl⟩⟩
theorem own_number {W : World} (h : W.ShapedOpen Tryd.prog) : ∃ m, W.cell? ⟨2, 0, none⟩ = some (.int .i64 m) :=
  cell_of_shapedOpen_int (zero := #[.int .i64 0]) h (of_decide_eq_true (by kernel_rfl)) (by kernel_rfl) rfl (by kernel_rfl) (by kernel_rfl) Tryd.underlying3

set_option maxRecDepth 100000 in
theorem lifted (os : Os) (started : os.Started) (H : Type) (enc : TypeId × Value → H) :
    ReturnsInHanded {} Tryd.checked os 4 .any (fun w args => (Rows.fnExactReadRecordSpec.pre enc Tryd.prog Tryd.f4 [] false w args ∧ laidMetH Tryd.prog Rows.fnExactReadRecordRow.laid w) ∧ sizedMet enc Tryd.prog Tryd.f4 (OpenSpec.ofChange Rows.fnExactReadRecordSpec) false w args)
      (Rows.fnExactReadRecordSpec.post enc Tryd.prog Tryd.f4 false true false false) := by
  refine returnsInHanded_of_calls own started (by kernel_rfl)
    (ChangeSpec.witness_shaped (enc := enc) (C := Tryd.checked) (os := os) (X := fun w _ => laidMetH Tryd.prog Rows.fnExactReadRecordRow.laid w) false (World.laidAll Tryd.prog os Rows.fnExactReadRecordRow.laid) #[.string ByteArray.empty, .int .i64 0] 8 (World.laidAll_os _ _ _) (World.shaped_of_ZipB (by kernel_rfl) (by kernel_rfl)) (by kernel_rfl) (by kernel_rfl) (by kernel_rfl)
      (by rw [MakeChecks.laidMetH_plain _ _ _ (by kernel_rfl)]; exact laidMet_laidAll _ (by kernel_rfl) (by kernel_rfl))) ?_
  intro w tape i _ hsh _ hok hpre _
  obtain ⟨_, _, _, fn, hfn, _, _, _, _, hval1⟩ := hok
  obtain rfl : Tryd.f4 = fn := Option.some.inj (Tryd.func4.symm.trans hfn)
  obtain ⟨⟨⟨ds0, gs0, before0, hw0, _⟩, hx⟩, _⟩ := hpre
  have same := DataW.Whole.of_heap (w' := w.forCall tape i) (by rfl) hw0
  have hlaid : laidMetH Tryd.prog Rows.fnExactReadRecordRow.laid (w.forCall tape i) := hx.of_heap (by rfl)
  suffices key : ∀ (W : World) (args : Array Value) (ds gs : List (DataW H)) (before : List MemPlace), (∀ (j : Nat) t v, Tryd.f4.params[j]? = some t → args[j]? = some v → Value.okWide Tryd.prog W .any w.heap.size t v) → DataW.Whole enc Tryd.prog Tryd.f4.params.toList Rows.fnExactReadRecordSpec.vars false W args.toList ds gs before → laidMetH Tryd.prog Rows.fnExactReadRecordRow.laid W → W.ShapedOpen Tryd.prog →
      Calls Tryd.prog 4 args W fun e W' => ∃ v, e = .returned v ∧ Rows.fnExactReadRecordSpec.post enc Tryd.prog Tryd.f4 false true false false W args v W' from
    (key (w.forCall tape i) i.args ds0 gs0 before0 hval1 same hlaid hsh).mono fun e W' ⟨v, he, hp⟩ => by subst he; exact ChangeSpec.post_blind hp
  clear same hlaid hw0 hx hval1 hsh
  intro W args ds gs before hval0 hW hL hsh
  have hval : ∀ (j : Nat) t v, Tryd.f4.params[j]? = some t → args[j]? = some v → Value.okWide Tryd.prog W .any w.heap.size t v := hval0
  have hW' := hW
  obtain ⟨p, q, hA0, hV, rfl, hfz, hnd⟩ := hW
  have hA : DataW.TrodAll enc Tryd.prog W 0 (fun _ => true) true Tryd.f4.params.toList args.toList ds p := hA0
  rw [Tryd.params4] at hA hval
  have hE := errs hL
  obtain ⟨mm, hm⟩ := own_number hsh
  obtain ⟨v0, vs0, d0, ds0, p0, q0, hargs, rfl, rfl, h0, r0⟩ := trodAll_cons hA
  obtain ⟨v1, vs1, d1, ds1, p1, q1, rfl, rfl, rfl, h1, r1⟩ := trodAll_cons r0
  obtain ⟨rfl, rfl, rfl⟩ := trodAll_nil r1
  obtain rfl : args = #[v0, v1] := by cases args; simp_all
  have hgl : gs.length = 2 := vars_len hV
  obtain ⟨z0, z1, rfl⟩ : ∃ z0 z1, gs = [z0, z1] := by
    match gs, hgl with
    | [z0, z1], _ => exact ⟨z0, z1, rfl⟩
  have k0 := h0
  have lt0 : ∀ x ∈ p0, x.block < W.heap.size := by obtain ⟨m, hm⟩ := k0; exact DataW.trod_lt m _ _ _ hm
  have k1 := h1
  have lt1 : ∀ x ∈ p1, x.block < W.heap.size := by obtain ⟨m, hm⟩ := k1; exact DataW.trod_lt m _ _ _ hm
  obtain ⟨a0, rfl, _, _, w0⟩ := open_string Tryd.underlying9 (hval 0 9 v0 rfl rfl) h0
  obtain ⟨a1, rfl, _, _, w1⟩ := open_int Tryd.underlying3 (hval 1 3 v1 rfl rfl) h1
  clear hA0 hval0
  have hLy := laidFact hL
  have hFm := frmFact hL
  rw [MakeChecks.laidMetH_plain _ _ _ (by kernel_rfl)] at hL
  have hTab : Tab W := fun v hb n h0 h1 => itoaOf h0 (Any.strconv_Itoa Tryd.laysM171 n (by omega) (by omega) v (tabOn (Lib.tabIs_of_head (by kernel_rfl : _ = some 7) (by kernel_rfl : _ = some 117) Tryd.underlying117 Tryd.underlying101 (by kernel_rfl) (by kernel_rfl) hL.tail.tail) hb))
  refine (walk_FnExactReadRecord a0 a1 W w0 (wf_bounds w1) hE mm hm hLy hFm hTab).mono fun e W' ⟨he, bel⟩ => ?_
  subst he
  exact ⟨_, rfl, _, _, _, [], _, _, hW', trodAll_mk1 (shut_bool Tryd.underlying4 _), (trodAll_cons_mk (Below.trod laidOut (by kernel_rfl) (of_decide_eq_true (by kernel_rfl)) k0 bel lt0) (trodAll_cons_mk (Below.trod laidOut (by kernel_rfl) (of_decide_eq_true (by kernel_rfl)) k1 bel lt1) trodAll_mk0)), Below.trodVars laidOut bel (by kernel_rfl) hV, bel.frame _, fun h => by cases h⟩

theorem joined : joinedFacts Tryd.prog 4 Tryd.f4 Rows.fnExactReadRecordSpec Rows.fnExactReadRecordRow = true := by
  unfold joinedFacts
  rw [make_cut, may_enter, lifts_fin]
  kernel_rfl

theorem over : Rows.fnExactReadRecordRow.holds Tryd.pinned (OpenSpec.ofChange Rows.fnExactReadRecordSpec) :=
  OpenClaim.holds_of_wide 4 Tryd.f4 rfl rfl rfl rfl rfl rfl rfl ⟨rfl, rfl, rfl, rfl, rfl⟩ rfl rfl rfl rfl rfl (by kernel_rfl) Tryd.func4 joined
    (of_decide_eq_true (by kernel_rfl)) (by unfold Func.isWrapper; first | (rw [if_pos (by decide +kernel)]; kernel_rfl) | (rw [if_neg (by decide +kernel)]; exact ⟨rfl, rfl⟩))
    (fun os started H enc _ => lifted os started H enc)

theorem proved : Rows.FnExactReadRecordCardSaid :=
  Claim7.holds_tied_plain_at .later [] [.data, .data, .data, .data, .sentinel, .sentinel, .wider, .wider, .pinned] true (true, "c6cdbe5f4ac8a83f680325af71f3ce78064cf8a461adbc173fa7d511cbe36b0f") true
    over (fun _ h => by cases h) (by kernel_rfl) (fun _ h => by cases h) fnExactReadRecord_row_tie rfl ⟨rfl, rfl⟩ (by kernel_rfl) rfl
    (fun f fn hf hfn => by
      obtain rfl : f = 4 := Option.some.inj ((show Tryd.prog.funcNamed Rows.fnExactReadRecordRow.func = some 4 by kernel_rfl).symm.trans hf) |>.symm
      obtain rfl : fn = Tryd.f4 := (Option.some.inj (Tryd.func4.symm.trans hfn)).symm
      exact ⟨by kernel_rfl, fun j t ht => by
        rw [Tryd.params4] at ht
        have hm : t ∈ [9, 3] := by simpa using Array.mem_of_getElem? ht
        have hall : ([9, 3].all fun u => !Tryd.prog.wantsStandIn u) = true := by kernel_rfl
        exact (show Tryd.prog.wantsStandIn t = false by simpa using List.all_eq_true.1 hall t hm)⟩)
    (by kernel_rfl)
end Go.Proofs.YthhgamnkidkanaaDoor.fnExactReadRecord
