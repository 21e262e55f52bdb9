/- A map from numbers to blocks; firstBlocks of the program. No condition but that the numbers fit. -/
import Derived.Test.YtepbjmpbcobfpaaDoorJn
import Derived.Maps.Own
import Derived.Maps.OwnSet
import Derived.Maps.Views
import Derived.Maps.Keyed
import Derived.MapFrom
namespace Go.Proofs.YtepbjmpbcobfpaaDoor
open Go.ChangeShapes Go.WideShapes Go.ChangeAt Go.RowKit Go.Joins
set_option linter.unusedVariables false
set_option linter.unusedSimpArgs false

def rB (v : Value) : Option (DataW Value × List MemPlace) := some (.held v, [])
def Fits (x : Int) : Prop := -9223372036854775808 ≤ x ∧ x ≤ 9223372036854775807
theorem int_kd : Maps.Keyed Tryd.prog 3 := Maps.int_keyed Tryd.underlying3
theorem ky {x : Int} (h : Fits x) : keyOf Tryd.prog 3 (.int .i64 x) = some (.int .i64 x) :=
  Maps.keyOf_int_mk Tryd.underlying3 (by simp [Lit.wf, IntKind.min, IntKind.max, IntKind.signed, IntKind.bits]; exact ⟨h.1, by have := h.2; omega⟩)
theorem firstIn_next {l : List Fo} {k : Nat} (hk : k < l.length) (x : Int) : firstIn (l.take (k + 1)) x = match firstIn (l.take k) x with
    | some f => some f
    | none => if l[k].n = x then some l[k] else none := by
  rw [firstIn, List.take_succ_eq_append_getElem hk, List.find?_append]
  cases hf : firstIn (l.take k) x with
  | some f => rw [firstIn] at hf; rw [hf]; rfl
  | none =>
    rw [firstIn] at hf
    rw [hf]
    by_cases h : l[k].n = x
    · simp [h]
    · simp [h]
/-- block bm is a map of at most n entries that leads from each number to the first block that bears it -/
def MapB (w : World) (bm n : Nat) (l : List Fo) : Prop := ∃ D : DataW Value, w.ownsMap Tryd.prog 3 rB bm n D ∧ Maps.IsMap D ∧ ∀ x : Int, Fits x → Maps.has D (.int .i64 x) = (firstIn l x).isSome ∧ D.atKey (.int .i64 x) (.held (fbV none)) = .held (fbV (firstIn l x))
theorem MapB.new (w : World) : MapB (w.alloc (.map #[] 0)) w.heap.size 0 [] := ⟨.map [], World.ownsMap_made w _ _ _, Maps.isMap_empty, fun _ _ => ⟨rfl, rfl⟩⟩
theorem MapB.kept {w w' : World} {row : Option Nat} {bm n : Nat} {l : List Fo} (h : MapB w bm n l) (hg : w.grownBy w' row) (hne : some bm ≠ row) : MapB w' bm n l := by
  obtain ⟨D, ho, h2⟩ := h
  exact ⟨D, ho.kept hg hne, h2⟩
theorem MapB.lt {w : World} {bm n : Nat} {l : List Fo} (h : MapB w bm n l) : bm < w.heap.size := by
  obtain ⟨D, ho, _⟩ := h; exact ho.lt
theorem MapB.on {w w' : World} {bm n : Nat} {l : List Fo} (h : MapB w bm n l) (hb : Below w.heap.size w w') : MapB w' bm n l := h.kept (grown_below none hb) (by simp)
theorem zero_blk (w : World) : (zeroValue 35).run Tryd.prog w = .ok (fbV none) w := by kernel_rfl
theorem MapB.look {w : World} {bm n : Nat} {l : List Fo} (h : MapB w bm n l) {x : Int} (hx : Fits x) : (Instr.lookup 59 (.map (some bm)) (.int .i64 x) true).run Tryd.prog w = .ok (.tuple #[fbV (firstIn l x), .bool (firstIn l x).isSome]) w := by
  obtain ⟨D, ho, hi, hat⟩ := h
  obtain ⟨v, ps, hrun, hv⟩ := ho.look_ok int_kd Tryd.underlying59 (zero_blk w) (show rB (fbV none) = some (.held (fbV none), []) from rfl) (ky hx)
  rw [(hat x hx).2] at hv
  have hv2 : v = fbV (firstIn l x) := by simp [rB] at hv; exact hv.1
  rw [← (hat x hx).1, ← hv2]
  exact hrun
theorem MapB.skip {w : World} {bm n : Nat} {l : List Fo} {k : Nat} (hk : k < l.length) (h : MapB w bm n (l.take k)) (hs : (firstIn (l.take k) l[k].n).isSome = true) : MapB w bm n (l.take (k + 1)) := by
  obtain ⟨D, ho, hi, hat⟩ := h
  refine ⟨D, ho, hi, fun x hx => ?_⟩
  have e : firstIn (l.take (k + 1)) x = firstIn (l.take k) x := by
    rw [firstIn_next hk]
    cases hf : firstIn (l.take k) x with
    | some f => rfl
    | none =>
      by_cases hn : l[k].n = x
      · rw [hn, hf] at hs; cases hs
      · simp [hn]
  rw [e]
  exact hat x hx
theorem MapB.store {w : World} {bm n : Nat} {l : List Fo} {k : Nat} (hk : k < l.length) (h : MapB w bm n (l.take k)) (hs : (firstIn (l.take k) l[k].n).isSome = false) (hx : Fits l[k].n) (hn : n ≤ 1000000) : ∃ w', (Instr.mapUpdate 59 (.map (some bm)) (.int .i64 l[k].n) (fbV (some l[k]))).run Tryd.prog w = .ok () w' ∧ MapB w' bm (n + 1) (l.take (k + 1)) ∧ w.grownBy w' (some bm) := by
  obtain ⟨D, ho, hi, hat⟩ := h
  obtain ⟨w', hrun, ho', hg⟩ := ho.update int_kd Tryd.underlying59 (by unfold maxLen; omega) (ky hx) (show rB (fbV (some l[k])) = some (.held (fbV (some l[k])), []) from rfl)
  refine ⟨w', hrun, ⟨D.put (.int .i64 l[k].n) (.held (fbV (some l[k]))), ho', hi.put _ _, fun x hx2 => ?_⟩, hg⟩
  have hf0 : firstIn (l.take k) l[k].n = none := by cases hf : firstIn (l.take k) l[k].n with
    | none => rfl
    | some f => rw [hf] at hs; cases hs
  rw [firstIn_next hk]
  by_cases he : l[k].n = x
  · subst he
    rw [hf0]
    simp only [if_true]
    exact ⟨Maps.has_put_same hi (int_kd.key (ky hx)) _, Maps.atKey_put_same hi (int_kd.key (ky hx)) _ _⟩
  · have hne : (Lit.int .i64 x) ≠ .int .i64 l[k].n := fun e => he (by injection e with _ e2; exact e2.symm)
    rw [Maps.has_put_other hne, Maps.atKey_put_other hne, (hat x hx2).1, (hat x hx2).2]
    cases hf : firstIn (l.take k) x with
    | some f => exact ⟨rfl, rfl⟩
    | none => simp [he]

set_option maxHeartbeats 4000000 in
set_option maxRecDepth 100000 in
theorem c_firstBlocks (S : ByteArray) (l : List Fo) (w : World) (a0 : Addr) (hF : ∀ v : World, Glob0 v a0 → Calls Tryd.prog 9 #[.string S] v fun e w' => ∃ A cap, e = .returned (.slice A l.length cap) ∧ w'.ownsRow v.heap.size 40 5 (.slice A l.length cap) l.length (fvs l) ∧ Below v.heap.size v w') (hl : l.length ≤ 1000) (hfit : ∀ f ∈ l, Fits f.n) (hG : Glob0 w a0) : Calls Tryd.prog 27 #[.string S] w fun e w' => ∃ bm n, e = .returned (.map (some bm)) ∧ MapB w' bm n l ∧ w.heap.size ≤ bm ∧ Below w.heap.size w w' := by
  have HF := hid hF
  have HFit := hid hfit
  obtain ⟨N, hN⟩ : ∃ N, N = l.length := ⟨_, rfl⟩
  have HN := hid hN
  have HM0 := MapB.new w
  have hbA := bel_alloc (Below.refl _ w) (.map #[] 0)
  have hG0 := hG.on hbA
  have zA : (w.alloc (.map #[] 0)).heap.size = w.heap.size + 1 := World.size_alloc _ _
  clear hF hfit hN
  have hmk : (Instr.makeMap 59 none).run Tryd.prog w = .ok (.map (some w.heap.size)) (w.alloc (.map #[] 0)) := rfl
  go_enter Tryd.func27, Tryd.ntmps27
  go_wp2_with fail
  clear hmk
  obtain ⟨W0, hW0⟩ : ∃ W0, W0 = w.alloc (.map #[] 0) := ⟨_, rfl⟩
  rw [← hW0] at HM0 hbA hG0 zA ⊢
  clear hW0
  refine (HF.out _ hG0).mono ?_
  rintro e w1 ⟨A1, q1, rfl, own1, hb1⟩
  have HM1 := HM0.on hb1
  have hB1 := hbA.trans (hb1.mono hbA.size)
  rw [← HN.out] at own1 hl ⊢
  have own1b := own_mono own1 (show w.heap.size + 1 ≤ W0.heap.size by omega)
  clear own1 hb1 HM0 hG0 hG hbA
  go_wp2_with fail
  go_loopw [12] (fun i wr => ∃ k n : Nat, k ≤ N ∧ n ≤ k ∧ i = .int .i64 k ∧ MapB wr w.heap.size n (l.take k) ∧ wr.ownsRow (w.heap.size + 1) 40 5 (.slice A1 N q1) N (fvs l) ∧ Below w.heap.size w wr) (fun i _ => N - (intOf i).toNat)
  case atStart => exact ⟨0, 0, Nat.zero_le _, Nat.le_refl _, rfl, HM1, own1b, hB1⟩
  case round =>
    clear HM1 own1b hB1
    obtain ⟨k, n, hk, hn, rfl, hM, hown, hbl⟩ := hrel
    by_cases hlt : k < N
    · have hlt2 : k < l.length := by have := HN.out; omega
      have HO := hid hown
      have HM := hid hM
      obtain ⟨b, off, hA, hbb, hc0, hc1, hc2, hc3, hc4⟩ := fo_at (own_fosq hown) k hlt2
      subst hA
      have hfx := HFit.out l[k] (List.getElem_mem _)
      obtain ⟨p, hp⟩ : ∃ p, p = l[k] := ⟨_, rfl⟩
      rw [← hp] at hc0 hc1 hc2 hc3 hc4 hfx
      have HP := hid hp
      have hbV := bel_alloc (Below.refl _ wr) (.cells #[.int .i64 p.s, .int .i64 p.n, .bool p.raw, .int .i64 p.z, .string p.body] 40)
      have HOV := hid (own_on hown hbV)
      have hMV := hM.on hbV
      have hblV := hbl.trans (hbV.mono hbl.size)
      have HX := Blk.new wr 40 #[.int .i64 p.s, .int .i64 p.n, .bool p.raw, .int .i64 p.z, .string p.body]
      have hRB := Blk.new wr 40 #[.int .i64 0, .int .i64 0, .bool false, .int .i64 0, .string ByteArray.empty]
      obtain ⟨r0, r1, r2, r3, r4⟩ := hRB.cells5
      have f0 := hRB.frozen 0
      have f1 := hRB.frozen 1
      have f2 := hRB.frozen 2
      have f3 := hRB.frozen 3
      have f4 := hRB.frozen 4
      clear hRB hp hown hM hbV
      obtain ⟨V, hV⟩ : ∃ V, V = wr.alloc (.cells #[.int .i64 p.s, .int .i64 p.n, .bool p.raw, .int .i64 p.z, .string p.body] 40) := ⟨_, rfl⟩
      rw [← hV] at hMV hblV HOV HX
      have hrun := hMV.look hfx
      have hRC := Blk.new V 35 #[.int .i64 0, .bool false, .int .i64 0, .string ByteArray.empty]
      obtain ⟨s0, s1, s2, s3⟩ := hRC.cells4y
      have g0 := hRC.frozen 0
      have g1 := hRC.frozen 1
      have g2 := hRC.frozen 2
      have g3 := hRC.frozen 3
      have HMV := hid hMV
      clear hRC hMV
      cases hf : firstIn (l.take k) p.n with
      | some f =>
        rw [hf, show fbV (some f) = .agg #[.int .i64 f.n, .bool f.raw, .int .i64 f.z, .string f.body] from rfl, show (some f).isSome = true from rfl] at hrun
        have HS := hid (show (firstIn (l.take k) l[k].n).isSome = true by rw [← HP.out, hf]; rfl)
        have hb3 := bel_alloc (Below.refl _ V) (.cells #[.int .i64 f.n, .bool f.raw, .int .i64 f.z, .string f.body] 35)
        have hM3 := hid ((MapB.skip hlt2 HMV.out HS.out).on hb3)
        have hO3 := hid (own_on HOV.out hb3)
        have hbl3 := hblV.trans (hb3.mono hblV.size)
        clear hf hb3 HX
        subst hV
        go_wp2_with fail
        go_roundw
        case rel => exact ⟨k + 1, n, by omega, by omega, by go_num, hM3.out, hO3.out, hbl3⟩
        case measure => simp [intOf]; omega
      | none =>
        rw [hf, show fbV none = .agg #[.int .i64 0, .bool false, .int .i64 0, .string ByteArray.empty] from rfl, show (none : Option Fo).isSome = false from rfl] at hrun
        have HS := hid (show (firstIn (l.take k) l[k].n).isSome = false by rw [← HP.out, hf]; rfl)
        have hb3 := bel_alloc (Below.refl _ V) (.cells #[.int .i64 0, .bool false, .int .i64 0, .string ByteArray.empty] 35)
        obtain ⟨w5, hst, hM5, hg5⟩ := MapB.store hlt2 (HMV.out.on hb3) HS.out (by rw [← HP.out]; exact hfx) (by omega)
        rw [← HP.out, show fbV (some p) = .agg #[.int .i64 p.n, .bool p.raw, .int .i64 p.z, .string p.body] from rfl] at hst
        have HM5 := hid hM5
        have hO5 := hid ((own_on HOV.out hb3).kept hg5 (by
          cases hv : (Value.slice (some ⟨b, off, none⟩) N q1).ownBlock with
          | none => exact .inl rfl
          | some g => exact .inr (fun e => by have := (HOV.out.lt _ hv).1; injection e with e2; omega)))
        have hbl3 := hblV.trans (hb3.mono hblV.size)
        have hbl5 := hbl3.trans (below_of_grown hg5 hbl3.size (fun g e => by injection e with e2; omega))
        obtain ⟨x0, x1, x2, x3, x4⟩ := HX.cells5
        have d1 := cell_to x1 hb3
        have d2 := cell_to x2 hb3
        have d3 := cell_to x3 hb3
        have d4 := cell_to x4 hb3
        clear hf hM5 hg5 hb3 hbl3 x0 x1 x2 x3 x4 HX
        subst hV
        go_wp2_with fail
        go_roundw
        case rel => exact ⟨k + 1, n + 1, by omega, by omega, by go_num, HM5.out, hO5.out, hbl5⟩
        case measure => simp [intOf]; omega
    · have hkN : k = N := by omega
      subst hkN
      have hM9 := hM
      rw [HN.out, List.take_length] at hM9
      go_wp2_with fail
      go_ret
      exact ⟨w.heap.size, n, rfl, hM9, Nat.le_refl _, hbl⟩

end Go.Proofs.YtepbjmpbcobfpaaDoor
