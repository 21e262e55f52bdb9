/-
  The law FnRecord returns true for every input. No condition. (The row's step around the walk.)
-/
import Derived.Test.YtaiemogcboidhaaGreatDoorRows
import Derived.Test.YtaiemogcboidhaaGreatDoorSigns
import Derived.Test.YtaiemogcboidhaaGreatDoorNf
import Derived.Test.YtaiemogcboidhaaGreatDoorCards
import Derived.Test.YtaiemogcboidhaaGreatDoorTie
import Derived.SevenTiedAt
import Derived.LaidMore
import Derived.OpenShut
import Derived.Stop.Joined
import Derived.Lay
import Derived.Stop.LaidErr
import Derived.HandedShaped
import Derived.Shelf.Vars
import Derived.Test.YtaiemogcboidhaaGreatDoorYl
import Derived.OpenVars
namespace Go.Proofs.YtaiemogcboidhaaGreatDoor.fnRecord
open Go.ChangeShapes Go.WideShapes Go.ChangeAt Go.RowKit Go.Joins
open Go.ChangeMaps (open_string shut_string)
set_option linter.unusedVariables false

theorem own : ownKnob Tryz.prog.godebug = none := own_knob
theorem laidOut : laidOutB Tryz.prog = true := laid_out

theorem laidFact {W : World} (hL : laidMetH Tryz.prog Rows.fnRecordRow.laid W) : Lay W := by
  rw [MakeChecks.laidMetH_plain _ _ _ (by kernel_rfl)] at hL
  exact lay_of (by kernel_rfl) (by kernel_rfl) hL.tail.tail.tail.tail.tail.tail

theorem frmFact {W : World} (hL : laidMetH Tryz.prog Rows.fnRecordRow.laid W) : Frm W := by
  rw [MakeChecks.laidMetH_plain _ _ _ (by kernel_rfl)] at hL
  exact frm_of (by kernel_rfl) (by kernel_rfl) hL.tail.tail.tail.tail.tail.tail.tail

/-- the cells of the two error values, and the library's own number, out of what is listed and of the world's shape -/
theorem err_row (nm : String) (u : TypeId) (hn : Tryz.prog.typeName? 3 137 = some nm) (h : Tryz.prog.typeName? 3 u = some nm) : u = 137 :=
  typeName_ptr_named (nm := "errors.errorString") (by kernel_rfl) (by kernel_rfl) (by decide) u (h.trans (hn.symm.trans (by kernel_rfl)))
theorem errs {W : World} (hL : laidMetH Tryz.prog Rows.fnRecordRow.laid W) : ErrAt W := by
  rw [MakeChecks.laidMetH_plain _ _ _ (by kernel_rfl)] at hL
  have hL2 := hL.tail.tail.tail.tail
  obtain ⟨b0, s0, q0, _⟩ := laid_sentinel hL2 (by kernel_rfl : _ = some 7) (by kernel_rfl : _ = some 80) Tryz.underlying80 (fun u h => err_row _ u (by kernel_rfl) h) Tryz.underlying137 Tryz.underlying139 rfl rfl Tryz.underlying9 (by kernel_rfl) (by kernel_rfl)
  obtain ⟨b1, s1, q1, _⟩ := laid_sentinel hL2.tail (by kernel_rfl : _ = some 6) (by kernel_rfl : _ = some 80) Tryz.underlying80 (fun u h => err_row _ u (by kernel_rfl) h) Tryz.underlying137 Tryz.underlying139 rfl rfl Tryz.underlying9 (by kernel_rfl) (by kernel_rfl)
  have c0 := World.var?_cell (by kernel_rfl : _ = some 7) q0 0
  have c1 := World.var?_cell (by kernel_rfl : _ = some 6) q1 0
  exact ⟨_, _, by simpa using c1, .inr ⟨_, _, rfl⟩, by simpa using c0, .inr ⟨_, _, rfl⟩⟩
theorem own_number {W : World} (h : W.ShapedOpen Tryz.prog) : ∃ m, W.cell? ⟨2, 0, none⟩ = some (.int .i64 m) :=
  cell_of_shapedOpen_int (zero := #[.int .i64 0]) h (of_decide_eq_true (by kernel_rfl)) (by kernel_rfl) rfl (by kernel_rfl) (by kernel_rfl) Tryz.underlying3

set_option maxRecDepth 100000 in
theorem lifted (os : Os) (started : os.Started) (H : Type) (enc : TypeId × Value → H) :
    ReturnsInHanded {} Tryz.checked os 4 .any (fun w args => (Rows.fnRecordSpec.pre enc Tryz.prog Tryz.f4 [] false w args ∧ laidMetH Tryz.prog Rows.fnRecordRow.laid w) ∧ sizedMet enc Tryz.prog Tryz.f4 (OpenSpec.ofChange Rows.fnRecordSpec) false w args)
      (Rows.fnRecordSpec.post enc Tryz.prog Tryz.f4 false true false false) := by
  refine returnsInHanded_of_calls own started (by kernel_rfl)
    (ChangeSpec.witness_shaped (enc := enc) (C := Tryz.checked) (os := os) (X := fun w _ => laidMetH Tryz.prog Rows.fnRecordRow.laid w) false (World.laidAll Tryz.prog os Rows.fnRecordRow.laid) #[.slice none 0 0, .slice none 0 0] 8 (World.laidAll_os _ _ _) (World.shaped_of_ZipB (by kernel_rfl) (by kernel_rfl)) (by kernel_rfl) (by kernel_rfl) (by kernel_rfl)
      (by rw [MakeChecks.laidMetH_plain _ _ _ (by kernel_rfl)]; exact laidMet_laidAll _ (by kernel_rfl) (by kernel_rfl))) ?_
  intro w tape i _ hsh _ hok hpre _
  obtain ⟨_, _, _, fn, hfn, _, _, _, _, hval1⟩ := hok
  obtain rfl : Tryz.f4 = fn := Option.some.inj (Tryz.func4.symm.trans hfn)
  obtain ⟨⟨⟨ds0, gs0, before0, hw0, _⟩, hx⟩, _⟩ := hpre
  have same := DataW.Whole.of_heap (w' := w.forCall tape i) (by rfl) hw0
  have hlaid : laidMetH Tryz.prog Rows.fnRecordRow.laid (w.forCall tape i) := hx.of_heap (by rfl)
  suffices key : ∀ (W : World) (args : Array Value) (ds gs : List (DataW H)) (before : List MemPlace), (∀ (j : Nat) t v, Tryz.f4.params[j]? = some t → args[j]? = some v → Value.okWide Tryz.prog W .any w.heap.size t v) → DataW.Whole enc Tryz.prog Tryz.f4.params.toList Rows.fnRecordSpec.vars false W args.toList ds gs before → laidMetH Tryz.prog Rows.fnRecordRow.laid W → W.ShapedOpen Tryz.prog →
      Calls Tryz.prog 4 args W fun e W' => ∃ v, e = .returned v ∧ Rows.fnRecordSpec.post enc Tryz.prog Tryz.f4 false true false false W args v W' from
    (key (w.forCall tape i) i.args ds0 gs0 before0 hval1 same hlaid hsh).mono fun e W' ⟨v, he, hp⟩ => by subst he; exact ChangeSpec.post_blind hp
  clear same hlaid hw0 hx hval1 hsh
  intro W args ds gs before hval0 hW hL hsh
  have hval : ∀ (j : Nat) t v, Tryz.f4.params[j]? = some t → args[j]? = some v → Value.okWide Tryz.prog W .any w.heap.size t v := hval0
  have hW' := hW
  obtain ⟨p, q, hA0, hV, rfl, hfz, hnd⟩ := hW
  have hA : DataW.TrodAll enc Tryz.prog W 0 (fun _ => true) true Tryz.f4.params.toList args.toList ds p := hA0
  rw [Tryz.params4] at hA hval
  have hE := errs hL
  obtain ⟨mm, hm⟩ := own_number hsh
  obtain ⟨v0, vs0, d0, ds0, p0, q0, hargs, rfl, rfl, h0, r0⟩ := trodAll_cons hA
  obtain ⟨v1, vs1, d1, ds1, p1, q1, rfl, rfl, rfl, h1, r1⟩ := trodAll_cons r0
  obtain ⟨rfl, rfl, rfl⟩ := trodAll_nil r1
  obtain rfl : args = #[v0, v1] := by cases args; simp_all
  have hgl : gs.length = 2 := vars_len hV
  obtain ⟨z0, z1, rfl⟩ : ∃ z0 z1, gs = [z0, z1] := by
    match gs, hgl with
    | [z0, z1], _ => exact ⟨z0, z1, rfl⟩
  have k0 := h0
  have lt0 : ∀ x ∈ p0, x.block < W.heap.size := by obtain ⟨m, hm⟩ := k0; exact DataW.trod_lt m _ _ _ hm
  have k1 := h1
  have lt1 : ∀ x ∈ p1, x.block < W.heap.size := by obtain ⟨m, hm⟩ := k1; exact DataW.trod_lt m _ _ _ hm
  obtain ⟨a0, n0, c0, rfl⟩ := okWide_slice Tryz.underlying22 (hval 0 22 v0 rfl rfl)
  have w0 : CodeAt W W.heap.size a0 n0 c0 := codeAt_of Tryz.underlying22 Tryz.underlying5 (by kernel_rfl) h0
  obtain ⟨a1, n1, c1, rfl⟩ := okWide_slice Tryz.underlying22 (hval 1 22 v1 rfl rfl)
  have w1 : CodeAt W W.heap.size a1 n1 c1 := codeAt_of Tryz.underlying22 Tryz.underlying5 (by kernel_rfl) h1
  clear hA0 hval0
  have hLy := laidFact hL
  have hFm := frmFact hL
  rw [MakeChecks.laidMetH_plain _ _ _ (by kernel_rfl)] at hL
  have hTab : Tab W := fun v hb n h0 h1 => itoaOf h0 (Any.strconv_Itoa Tryz.laysM171 n (by omega) (by omega) v (tabOn (Lib.tabIs_of_head (by kernel_rfl : _ = some 3) (by kernel_rfl : _ = some 120) Tryz.underlying120 Tryz.underlying108 (by kernel_rfl) (by kernel_rfl) hL.tail.tail) hb))
  refine (walk_FnRecord a0 n0 c0 a1 n1 c1 W w0 w1 hE mm hm hLy hFm hTab).mono fun e W' ⟨he, bel⟩ => ?_
  subst he
  exact ⟨_, rfl, _, _, _, [], _, _, hW', trodAll_mk1 (shut_bool Tryz.underlying4 _), (trodAll_cons_mk (Below.trod laidOut (by kernel_rfl) (of_decide_eq_true (by kernel_rfl)) k0 bel lt0) (trodAll_cons_mk (Below.trod laidOut (by kernel_rfl) (of_decide_eq_true (by kernel_rfl)) k1 bel lt1) trodAll_mk0)), Below.trodVars laidOut bel (by kernel_rfl) hV, bel.frame _, fun h => by cases h⟩

theorem joined : joinedFacts Tryz.prog 4 Tryz.f4 Rows.fnRecordSpec Rows.fnRecordRow = true := by
  unfold joinedFacts
  rw [make_cut, may_enter, lifts_fin]
  kernel_rfl

theorem over : Rows.fnRecordRow.holds Tryz.pinned (OpenSpec.ofChange Rows.fnRecordSpec) :=
  OpenClaim.holds_of_wide 4 Tryz.f4 rfl rfl rfl rfl rfl rfl rfl ⟨rfl, rfl, rfl, rfl, rfl⟩ rfl rfl rfl rfl rfl (by kernel_rfl) Tryz.func4 joined
    (of_decide_eq_true (by kernel_rfl)) (by unfold Func.isWrapper; first | (rw [if_pos (by decide +kernel)]; kernel_rfl) | (rw [if_neg (by decide +kernel)]; exact ⟨rfl, rfl⟩))
    (fun os started H enc _ => lifted os started H enc)

theorem proved : Rows.FnRecordCardSaid :=
  Claim7.holds_tied_plain_at .later [] [.data, .data, .data, .data, .sentinel, .sentinel, .wider, .wider, .pinned] true (true, "fed0dd4cb546b97ecc9105e1d8be58f8469cca8254e3f3a9174ea1083be05ad5") true
    over (fun _ h => by cases h) (by kernel_rfl) (fun _ h => by cases h) fnRecord_row_tie rfl ⟨rfl, rfl⟩ (by kernel_rfl) rfl
    (fun f fn hf hfn => by
      obtain rfl : f = 4 := Option.some.inj ((show Tryz.prog.funcNamed Rows.fnRecordRow.func = some 4 by kernel_rfl).symm.trans hf) |>.symm
      obtain rfl : fn = Tryz.f4 := (Option.some.inj (Tryz.func4.symm.trans hfn)).symm
      exact ⟨by kernel_rfl, fun j t ht => by
        rw [Tryz.params4] at ht
        have hm : t ∈ [22, 22] := by simpa using Array.mem_of_getElem? ht
        have hall : ([22, 22].all fun u => !Tryz.prog.wantsStandIn u) = true := by kernel_rfl
        exact (show Tryz.prog.wantsStandIn t = false by simpa using List.all_eq_true.1 hall t hm)⟩)
    (by kernel_rfl)
end Go.Proofs.YtaiemogcboidhaaGreatDoor.fnRecord
