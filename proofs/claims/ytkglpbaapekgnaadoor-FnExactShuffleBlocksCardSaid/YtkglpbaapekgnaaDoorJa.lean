/- containerOf in the program, over edits that keep blocks. The layout of the header and the errors are as the program's text lays them. -/
import Derived.Test.YtkglpbaapekgnaaDoorTl
import Derived.Laws.CopyRow
import Derived.Laws.IdiomCopy
namespace Go.Proofs.YtkglpbaapekgnaaDoor
open Go.ChangeShapes Go.WideShapes Go.ChangeAt Go.RowKit Go.Joins
set_option linter.unusedVariables false
set_option linter.unusedSimpArgs false

/-- copy of elements of four cells -/
theorem run_copy4 {P : Program} (w : World) (dT sT ty elem : TypeId) (dp sp : Option Addr) (dLen dCap sLen sCap g o : Nat) (cur : List Value) (t : TypeId) (cs : List Value)
    (hu : P.underlying dT = some (.slice elem)) (hs : (P.info? elem).map (·.size) = some 4) (hg : w.heap[g]? = some (.cells cur.toArray t (0, 0))) (hn : cs.length = Nat.min sLen dLen * 4)
    (hpos : 0 < cs.length → dp = some ⟨g, o, none⟩ ∧ ∃ ad, sp = some ad ∧ ∀ j v, cs[j]? = some v → w.cell? (ad.add j) = some v)
    (hfit : o + cs.length ≤ cur.length) (h1 : ∀ v ∈ cs, v.oneCell' = true) :
    ∃ w', (Builtin.copy_ #[dT, sT] ty #[.slice dp dLen dCap, .slice sp sLen sCap]).run P w = .ok (goInt (Nat.min sLen dLen)) w' ∧ w'.heap[g]? = some (.cells (cur.take o ++ cs ++ cur.drop (o + cs.length)).toArray t (0, 0)) ∧ (∀ (w0 : World), w0.heap.size ≤ g → Below w0.heap.size w0 w → Below w0.heap.size w0 w') := by
  cases hq : P.info? elem with
  | none => simp [hq] at hs
  | some i =>
    have hi : i.size = 4 := by simpa [hq] using hs
    by_cases h0 : cs.length = 0
    · obtain rfl : cs = [] := List.eq_nil_of_length_eq_zero h0
      have hm : Nat.min sLen dLen = 0 := by simp at hn; omega
      have hl : ∀ (x : Addr), (loadCells x 0).run P w = .ok #[] w := fun x => by simpa using run_loadCells_list (P := P) w x [] (by simp)
      refine ⟨w, ?_, by simpa using hg, fun w0 _ h => h⟩
      cases dp <;> cases sp <;> simp [Builtin.copy_, run_underlying hu, Builtin.lenOf, Builtin.firstCells, sizeOf, typeInfo, hq, hi, hm, storeCells, hl]
    · obtain ⟨rfl, ad, rfl, hsrc⟩ := hpos (by omega)
      have hl := run_loadCells_list (P := P) w ad cs hsrc
      have hst := run_storeCells_at P g o t cs 0 cur.toArray w hg (by simpa using hfit) h1
      refine ⟨w.setRow g (cur.take o ++ cs ++ cur.drop (o + cs.length)).toArray, ?_, by simpa using setRow_heap w g _ _ t _ hg, fun w0 hle hb => hb.trans ⟨rfl, rfl, rfl, by simp [World.setRow], fun k hk => setRow_other w g k _ (by omega)⟩⟩
      rw [hn] at hl
      simp [Builtin.copy_, run_underlying hu, Builtin.lenOf, Builtin.firstCells, sizeOf, typeInfo, hq, hi, hl, hst]

theorem bvs_drop (l : List Bl) (m : Nat) : (bvs l).drop (m * 4) = bvs (l.drop m) := by
  induction l generalizing m with
  | nil => simp [bvs]
  | cons b l ih =>
    cases m with
    | zero => simp
    | succ m =>
      rw [List.drop_succ_cons, bvs_cons, ← ih m, show (m + 1) * 4 = m * 4 + 1 + 1 + 1 + 1 from by omega]
      rfl
theorem bvs_take (l : List Bl) (m : Nat) : (bvs l).take (m * 4) = bvs (l.take m) := by
  induction l generalizing m with
  | nil => simp [bvs]
  | cons b l ih =>
    cases m with
    | zero => simp [bvs]
    | succ m =>
      rw [List.take_succ_cons, bvs_cons, bvs_cons, ← ih m, show (m + 1) * 4 = m * 4 + 1 + 1 + 1 + 1 from by omega]
      rfl
theorem bvs_one (l : List Bl) : ∀ v ∈ bvs l, v.oneCell' = true := by
  intro v hv
  simp only [bvs, List.mem_flatMap] at hv
  obtain ⟨b, -, hv⟩ := hv
  simp [bv] at hv
  rcases hv with rfl | rfl | rfl | rfl <;> rfl
theorem bls_cells {w : World} {L cap : Nat} {A : Option Addr} {l : List Bl} (h : BlsAt w L A cap l) (hl : 0 < l.length) : ∃ g off, A = some ⟨g, off, none⟩ ∧ ∀ j v, (bvs l)[j]? = some v → w.cell? ((⟨g, off, none⟩ : Addr).add j) = some v := by
  obtain ⟨g, off, e, hg, hc⟩ := h.2.2.2 hl
  refine ⟨g, off, e, fun j v hv => ?_⟩
  have hadd : (⟨g, off, none⟩ : Addr).add j = ⟨g, off + j, none⟩ := by unfold Addr.add; split <;> simp_all
  rw [hadd]
  have hj := get_lt hv
  rw [bvs_len] at hj
  obtain ⟨b, hb⟩ : ∃ b, l[j / 4]? = some b := ⟨l[j / 4]'(by omega), List.getElem?_eq_getElem (by omega)⟩
  have h4 := bvs_get l (j / 4) b hb (j % 4) (Nat.mod_lt _ (by omega))
  rw [show j / 4 * 4 + j % 4 = j from by omega, hv] at h4
  obtain ⟨c0, c1, c2, c3⟩ := hc (j / 4) b hb
  have hcase : j % 4 = 0 ∨ j % 4 = 1 ∨ j % 4 = 2 ∨ j % 4 = 3 := by omega
  rcases hcase with e4 | e4 | e4 | e4 <;> rw [e4] at h4 <;> simp [bv] at h4 <;> subst h4
  · rw [show off + j = off + j / 4 * 4 from by omega]; exact c0
  · rw [show off + j = off + j / 4 * 4 + 1 from by omega]; exact c1
  · rw [show off + j = off + j / 4 * 4 + 2 from by omega]; exact c2
  · rw [show off + j = off + j / 4 * 4 + 3 from by omega]; exact c3

/-- the array that a container is put together in -/
def RoomAt (w : World) (G : Nat) (R : List Bl) : Prop := w.heap[G]? = some (.cells (bvs R).toArray 100 (0, 0)) ∧ R.length = 40
def zbl : Bl := ⟨0, false, 0, ByteArray.empty⟩
theorem zero_room : Tryd.zeroCells100 = (bvs (List.replicate 40 zbl)).toArray := by kernel_rfl
theorem room_new (w : World) : RoomAt (w.alloc (.cells Tryd.zeroCells100 100)) w.heap.size (List.replicate 40 zbl) := by
  refine ⟨?_, by simp⟩
  rw [← zero_room]
  exact heap_alloc_new w _
theorem RoomAt.cells {w : World} {G : Nat} {R : List Bl} (h : RoomAt w G R) (i : Nat) (hi : i < R.length) : w.cell? ⟨G, i * 4, none⟩ = some (.int .i64 R[i].n) ∧ w.cell? ⟨G, i * 4 + 1, none⟩ = some (.bool R[i].raw) ∧ w.cell? ⟨G, i * 4 + 2, none⟩ = some (.int .i64 R[i].z) ∧ w.cell? ⟨G, i * 4 + 3, none⟩ = some (.string R[i].body) := by
  have hb := List.getElem?_eq_getElem hi
  have key : ∀ k < 4, w.cell? ⟨G, i * 4 + k, none⟩ = (bv R[i])[k]? := fun k hk => by
    have := bvs_get R i _ hb k hk
    simp only [World.cell?, h.1]
    rw [← this]
    simp
  exact ⟨key 0 (by omega), key 1 (by omega), key 2 (by omega), key 3 (by omega)⟩
theorem RoomAt.free {w : World} {G : Nat} {R : List Bl} (h : RoomAt w G R) (i : Nat) : w.frozen? ⟨G, i, none⟩ = false := by
  simp [World.frozen?, h.1]
theorem RoomAt.bls {w : World} {G : Nat} {R : List Bl} (h : RoomAt w G R) (c : Nat) (hc : c ≤ 40) : BlsAt w (G + 1) (some ⟨G, 0, none⟩) 40 (R.take c) := by
  have hR := h.2
  refine ⟨by rw [List.length_take]; omega, by simp [maxLen], fun e => by simp at e, fun hl => ⟨G, 0, rfl, by omega, fun i b hi => ?_⟩⟩
  have hlt := get_lt hi
  rw [List.length_take] at hlt
  rw [List.getElem?_take_of_lt (by omega), List.getElem?_eq_getElem (by omega)] at hi
  obtain rfl := Option.some.inj hi
  simpa using h.cells i (by omega)
/-- the room behind a copy -/
theorem room_copy {P : Program} (w : World) (dT sT ty elem : TypeId) (dp A : Option Addr) (dLen dCap cap G c L : Nat) (R l : List Bl)
    (hu : P.underlying dT = some (.slice elem)) (hs : (P.info? elem).map (·.size) = some 4) (hr : RoomAt w G R) (hA : BlsAt w L A cap l) (hc : c ≤ 40) (hd : dLen = 40 - c) (hdp : c < 40 → dp = some ⟨G, c * 4, none⟩) :
    ∃ w', (Builtin.copy_ #[dT, sT] ty #[.slice dp dLen dCap, .slice A l.length cap]).run P w = .ok (.int .i64 (min l.length (40 - c) : Nat)) w' ∧ RoomAt w' G (R.take c ++ l.take (40 - c) ++ R.drop (c + (l.take (40 - c)).length)) ∧ (∀ (w0 : World), w0.heap.size ≤ G → Below w0.heap.size w0 w → Below w0.heap.size w0 w') := by
  have hmin : Nat.min l.length dLen = (l.take (40 - c)).length := by rw [List.length_take, hd]; exact Nat.min_comm _ _
  obtain ⟨w', h1, h2, h3⟩ := run_copy4 (P := P) w dT sT ty elem dp A dLen dCap l.length cap G (c * 4) (bvs R) 100 (bvs (l.take (40 - c))) hu hs hr.1 (by rw [bvs_len, hmin])
    (fun hp => by
      rw [bvs_len, List.length_take] at hp
      obtain ⟨g, off, e, hcell⟩ := bls_cells hA (by omega)
      refine ⟨hdp (by omega), _, e, fun j v hv => hcell j v ?_⟩
      rw [← bvs_take] at hv
      have hj := get_lt hv
      rw [List.length_take] at hj
      rw [List.getElem?_take_of_lt (by omega)] at hv
      exact hv)
    (by rw [bvs_len, bvs_len, hr.2, List.length_take]; omega) (bvs_one _)
  refine ⟨w', ?_, ⟨?_, ?_⟩, h3⟩
  · rw [h1, hmin, List.length_take, Nat.min_comm]; rfl
  · rw [h2, bvs_len, ← Nat.add_mul, bvs_take, bvs_drop, bvs_append, bvs_append]
  · simp only [List.length_append, List.length_take, List.length_drop, hr.2]; omega

theorem room_len : Tryd.prog.arrayLen 100 = 40 := by kernel_rfl
theorem room_elem : Tryd.prog.elem 100 = 27 := by kernel_rfl
theorem room_ty : Tryd.prog.underlying 100 = some (.array (Tryd.prog.arrayLen 100) (Tryd.prog.elem 100)) := by
  rw [room_len, room_elem]
  exact Tryd.underlying100
theorem blk_size (W : World) : (sizeOf 27).run Tryd.prog W = .ok 4 W := by
  obtain ⟨i0, hi, hz0, hz1, hz2⟩ := info_parts Tryd.info_block
  simp [sizeOf, typeInfo, hi, hz1]
theorem room_from (G c : Nat) (hc : c ≤ 40) : ∃ dp : Option Addr, (c < 40 → dp = some ⟨G, c * 4, none⟩) ∧ ∀ W : World, (Instr.sliceAt 100 (.pointer (some ⟨G, 0, none⟩)) (some (.int .i64 (c : Int))) none none).run Tryd.prog W = .ok (.slice dp (40 - c) (40 - c)) W := by
  refine ⟨some (if 40 = c then ⟨G, 0, none⟩ else (⟨G, 0, none⟩ : Addr).add (c * 4)), fun h => ?_, fun W => ?_⟩
  · rw [if_neg (by omega)]
    simp [Addr.add]
    omega
  · rw [run_sliceAt_array_l (P := Tryd.prog) W 100 ⟨G, 0, none⟩ room_ty .i64 c (by omega) (by rw [room_len]; omega), room_elem, blk_size, room_len]
    simp [slicedAt]
theorem room_upto (G c : Nat) (hc : c ≤ 40) (W : World) : (Instr.sliceAt 100 (.pointer (some ⟨G, 0, none⟩)) none (some (.int .i64 (c : Int))) none).run Tryd.prog W = .ok (.slice (some ⟨G, 0, none⟩) c 40) W := by
  rw [run_sliceAt_array_h (P := Tryd.prog) W 100 ⟨G, 0, none⟩ room_ty .i64 c (by omega) (by rw [room_len]; omega), room_elem, blk_size, room_len]
  simp [slicedAt, Addr.add]

/-- an edit that keeps blocks: where its closure finds them -/
structure Ed where
  pc : Nat
  A : Option Addr
  q : Nat
  l : List Bl
def cat (es : List Ed) : List Bl := es.flatMap Ed.l
theorem cat_take_succ (es : List Ed) (k : Nat) (h : k < es.length) : cat (es.take (k + 1)) = cat (es.take k) ++ es[k].l := by
  rw [List.take_succ_eq_append_getElem h, cat, List.flatMap_append]; simp [cat]
theorem cat_take_le (es : List Ed) (k : Nat) : (cat (es.take k)).length ≤ (cat es).length := by
  have : cat es = cat (es.take k) ++ cat (es.drop k) := by simp [cat, ← List.flatMap_append]
  rw [this, List.length_append]; omega
def EdsAt (w : World) (L eb eo : Nat) (es : List Ed) : Prop := eb < L ∧ ∀ (i : Nat) (e : Ed), es[i]? = some e → w.cell? ⟨eb, eo + i, none⟩ = some (.func (.func 84) #[] #[.pointer (some ⟨e.pc, 0, none⟩)]) ∧ w.cell? ⟨e.pc, 0, none⟩ = some (.slice e.A e.l.length e.q) ∧ e.pc < L ∧ BlsAt w L e.A e.q e.l
theorem EdsAt.below {w w' : World} {L eb eo B : Nat} {es : List Ed} (h : EdsAt w L eb eo es) (hb : Below B w w') (hL : L ≤ B) : EdsAt w' L eb eo es :=
  ⟨h.1, fun i e he => by
    obtain ⟨h1, h2, h3, h4⟩ := h.2 i e he
    exact ⟨(World.cell?_of_block (a := ⟨eb, eo + i, none⟩) (hb.block eb (by have := h.1; omega))).trans h1, (World.cell?_of_block (a := ⟨e.pc, 0, none⟩) (hb.block e.pc (by omega))).trans h2, h3, h4.below hb hL⟩⟩

theorem c_keep1 (pc : Nat) (A : Option Addr) (n q : Nat) (w : World) (h : w.cell? ⟨pc, 0, none⟩ = some (.slice A n q)) : Calls Tryd.prog 84 #[.pointer (some ⟨pc, 0, none⟩)] w (Same (.tuple #[.slice A n q, .bool true]) w) := by
  go_enter Tryd.func84, Tryd.ntmps84
  go_wp2_with fail
  go_ret2
  exact ⟨rfl, rfl⟩

set_option maxHeartbeats 4000000 in
set_option maxRecDepth 100000 in
theorem c_containerOf (eb eo cap L : Nat) (es : List Ed) (w : World) (h : EdsAt w L eb eo es) (hL : L ≤ w.heap.size) (he : es.length ≤ 3) (hl : ∀ e ∈ es, e.l.length ≤ 40) (hok : ∀ b ∈ cat es, b.ok) (hLy : Lay w) : Calls Tryd.prog 59 #[.slice (some ⟨eb, eo, none⟩) es.length cap] w fun e w' => e = .returned (.tuple #[.string (edS (cat es)), .bool (edO (cat es))]) ∧ Below w.heap.size w w' := by
  obtain ⟨N, hN⟩ : ∃ N, N = es.length := ⟨_, rfl⟩
  have HN := hid hN
  have HE := hid h
  have HL := hid hl
  have HOK := hid hok
  have HLy := hid hLy
  rw [← hN] at he ⊢
  have R0 := hid (room_new w)
  have hb0 : Below w.heap.size w (w.alloc (.cells Tryd.zeroCells100 100)) := bel_alloc (Below.refl _ w) _
  clear hN h hl hok hLy
  go_enter Tryd.func59, Tryd.ntmps59
  go_wp2_with fail
  obtain ⟨V, hV⟩ : ∃ V, V = w.alloc (.cells Tryd.zeroCells100 100) := ⟨_, rfl⟩
  rw [← hV] at hb0 R0 ⊢
  clear hV
  go_loopw [5, 15] (fun u i wr => ∃ (k c : Nat) (R : List Bl), k ≤ N ∧ i = .int .i64 k ∧ u = .int .i64 c ∧ c ≤ 40 ∧ Hid (c = (cat (es.take k)).length) ∧ Hid (R.take c = cat (es.take k)) ∧ Hid (RoomAt wr w.heap.size R) ∧ Below w.heap.size w wr) (fun _ i _ => N - (intOf i).toNat)
  case atStart => exact ⟨0, 0, _, Nat.zero_le _, rfl, rfl, Nat.zero_le _, hid rfl, hid rfl, R0, hb0⟩
  case round =>
    obtain ⟨k, c, R, hk, rfl, rfl, hc, HC, HR, HRm, hbl⟩ := hrel
    have hz := hbl.size
    by_cases hlt : k < N
    · have hlt2 : k < es.length := by have := HN.out; omega
      obtain ⟨p0, p1, p2, p3⟩ := (HE.out.below hbl hL).2 k _ (List.getElem?_eq_getElem hlt2)
      have hp40 := HL.out _ (List.getElem_mem hlt2)
      have HT := hid (cat_take_succ es k hlt2)
      obtain ⟨p, hp⟩ : ∃ p, p = es[k] := ⟨_, rfl⟩
      rw [← hp] at p0 p1 p2 p3 hp40 HT
      obtain ⟨pc, A, q, l⟩ := p
      simp only at p0 p1 p2 p3 hp40 HT
      have HB := hid p3
      have HK := hid (c_keep1 pc A l.length q wr p1)
      obtain ⟨M, hM⟩ : ∃ M, M = l.length := ⟨_, rfl⟩
      rw [← hM] at hp40 HK
      have HM := hid hM
      clear hp p1 p3 hM
      obtain ⟨dp, hdp, hsl⟩ := room_from w.heap.size c hc
      obtain ⟨w2, hcp, HRm2, hbw⟩ := room_copy (P := Tryd.prog) wr 37 37 3 27 dp A (40 - c) (40 - c) q w.heap.size c L R l Tryd.underlying37 (by obtain ⟨i0, hi, hz0, hz1, hz2⟩ := info_parts Tryd.info_block; rw [hi]; simp [hz1]) HRm.out HB.out hc rfl hdp
      have hbl2 := hbw w (Nat.le_refl _) hbl
      have hRl := HRm.out.2
      have HRM := hid HRm2
      rw [← HM.out] at hcp
      clear hbw hdp HRm2
      by_cases hfit : M ≤ 40 - c
      · have hm : min M (40 - c) = M := by omega
        rw [hm] at hcp
        have HR2 := hid (show (R.take c ++ l.take (40 - c) ++ R.drop (c + (l.take (40 - c)).length)).take (c + M) = cat (es.take (k + 1)) by
          rw [HT.out, ← HR.out, List.take_of_length_le (show l.length ≤ 40 - c by have := HM.out; omega)]
          rw [List.take_append_of_le_length (by rw [List.length_append, List.length_take]; have := HM.out; omega)]
          rw [List.take_of_length_le (by rw [List.length_append, List.length_take]; have := HM.out; omega)])
        have HC2 := hid (show c + M = (cat (es.take (k + 1))).length by rw [HT.out, List.length_append, ← HC.out, ← HM.out])
        have hdec : decide ((M : Int) < (M : Int)) = false := decide_eq_false (by omega)
        obtain ⟨R2, hR2⟩ : ∃ R2, R2 = R.take c ++ l.take (40 - c) ++ R.drop (c + (l.take (40 - c)).length) := ⟨_, rfl⟩
        rw [← hR2] at HR2 HRM
        clear hR2 hm
        go_wp2_with fail
        refine (HK.out).mono ?_
        rintro e w3 ⟨rfl, rfl⟩
        go_wp2_with fail
        go_roundw
        case rel => exact ⟨k + 1, c + M, R2, by omega, by go_num, by go_num, by omega, HC2, HR2, HRM, hbl2⟩
        case measure => simp [intOf]; omega
      · have hm : min M (40 - c) = 40 - c := by omega
        rw [hm] at hcp
        have HBig := hid (show ¬ ((cat es).length ≤ 40 ∧ zs (cat es) ≤ 2000) by
          intro hh
          have h1 := cat_take_le es (k + 1)
          rw [HT.out, List.length_append, ← HC.out, ← HM.out] at h1
          omega)
        have HS := hid (show edS (cat es) = ByteArray.empty by rw [edS, if_neg HBig.out])
        have HO := hid (show edO (cat es) = false from decide_eq_false HBig.out)
        have hdec : decide ((((40 - c : Nat)) : Int) < (M : Int)) = true := decide_eq_true (by omega)
        have hdec2 : decide (40 - c < M) = true := decide_eq_true (by omega)
        clear hm
        go_wp2_with fail
        refine (HK.out).mono ?_
        rintro e w3 ⟨rfl, rfl⟩
        go_wp2_with fail
        go_ret2
        exact ⟨by rw [HS.out, HO.out]; rfl, hbl2⟩
    · have hkN : k = N := by omega
      have HC2 := hid (show c = (cat es).length by rw [HC.out, List.take_of_length_le (by have := HN.out; omega)])
      have HR2 := hid (show R.take c = cat es by rw [HR.out, List.take_of_length_le (by have := HN.out; omega)])
      have hsl := room_upto w.heap.size c hc
      clear HC HR hkN
      go_wp2_with fail
      clear hlt hk
      obtain ⟨D, hD⟩ : ∃ D, D = cat es := ⟨_, rfl⟩
      have HD := hid hD
      rw [← hD] at HC2 HR2
      have hokD : ∀ b ∈ D, b.ok := by rw [hD]; exact HOK.out
      clear hD
      have HOD := hid hokD
      have hD40 : D.length ≤ 40 := by have := HC2.out; omega
      have HV := hid (fun (v : World) (R2 : List Bl) (hb : Below w.heap.size w v) (hr : RoomAt v w.heap.size R2) (h2 : R2.take c = rn 0 D) => show Calls Tryd.prog 69 #[.slice (some ⟨w.heap.size, 0, none⟩) c 40] v (fun e w' => e = .returned (.string (str (txt (rn 0 D)))) ∧ Below v.heap.size v w') by
        have h3 := c_containerBytes (some ⟨w.heap.size, 0, none⟩) 40 (rn 0 D) (w.heap.size + 1) v (by rw [← h2]; exact hr.bls c hc) (by have := (Array.getElem?_eq_some_iff.1 hr.1).1; omega) (by rw [rn_len]; exact hD40) (rn_ok D hD40 hokD) (HLy.out.on hb)
        rw [rn_len, ← HC2.out] at h3
        exact h3)
      clear hokD
      go_loopw [6, 44] (fun u i wr => ∃ (j m : Nat) (R2 : List Bl), j ≤ c ∧ i = .int .i64 j ∧ u = .int .i64 m ∧ m ≤ 64 * j ∧ Hid (m = zs (D.take j)) ∧ Hid (R2.take c = rn 0 (D.take j) ++ D.drop j) ∧ Hid (RoomAt wr w.heap.size R2) ∧ Below w.heap.size w wr) (fun _ i _ => c - (intOf i).toNat)
      case atStart => exact ⟨0, 0, R, Nat.zero_le _, rfl, rfl, Nat.zero_le _, hid rfl, hid (by rw [HR2.out]; rfl), HRm, hbl⟩
      case round =>
        clear hbl HRm HR2
        obtain ⟨j, m, R2, hj, rfl, rfl, hm, HZ, HR2, HRm, hbl⟩ := hrel
        have hz := hbl.size
        by_cases hlt : j < c
        · have hjD : j < D.length := by have := HC2.out; omega
          have hR40 := HRm.out.2
          have hjR : j < R2.length := by omega
          have hget : R2[j] = D[j] := by
            have h1 : (R2.take c)[j]? = some R2[j] := by rw [List.getElem?_take_of_lt hlt, List.getElem?_eq_getElem hjR]
            rw [HR2.out, List.getElem?_append_right (by rw [rn_len, List.length_take]; omega), rn_len, List.length_take, Nat.min_eq_left (by omega), Nat.sub_self, List.getElem?_drop, Nat.add_zero, List.getElem?_eq_getElem hjD] at h1
            exact (Option.some.inj h1).symm
          obtain ⟨r0, r1, r2, r3⟩ := HRm.out.cells j hjR
          rw [hget] at r0 r2
          have hzz := HOD.out _ (List.getElem_mem hjD)
          have hzj := hzz.2.1
          obtain ⟨z, hzv⟩ : ∃ z, z = D[j].z := ⟨_, rfl⟩
          rw [← hzv] at r2 hzj
          obtain ⟨y, rfl⟩ := Int.eq_ofNat_of_zero_le (show 0 ≤ z by omega)
          have HZ2 := hid (show m + y = zs (D.take (j + 1)) by rw [zs_take_succ D j hjD, ← HZ.out, ← hzv]; rfl)
          have hf := HRm.out.free (j * 4)
          have HS := hid (show RoomAt (wr.setCell ⟨w.heap.size, j * 4, none⟩ (.int .i64 (j : Int))) w.heap.size (R2.set j ⟨(j : Int), R2[j].raw, R2[j].z, R2[j].body⟩) from ⟨by
            have h1 := Blk.set_ HRm.out.1 (j * 4) (.int .i64 (j : Int))
            rw [List.setIfInBounds_toArray, bvs_set0 R2 j R2[j] (List.getElem?_eq_getElem hjR)] at h1
            exact h1, by rw [List.length_set]; exact hR40⟩)
          have HR3 := hid (show (R2.set j ⟨(j : Int), R2[j].raw, R2[j].z, R2[j].body⟩).take c = rn 0 (D.take (j + 1)) ++ D.drop (j + 1) by
            rw [List.take_set, HR2.out, rn_take_succ D j hjD, hget, List.set_append_right _ _ (by rw [rn_len, List.length_take]; omega), rn_len, List.length_take, Nat.min_eq_left (by omega), Nat.sub_self, List.drop_eq_getElem_cons hjD, List.set_cons_zero, List.append_assoc]
            rfl)
          have r5 : (wr.setCell ⟨w.heap.size, j * 4, none⟩ (.int .i64 (j : Int))).cell? ⟨w.heap.size, j * 4 + 2, none⟩ = some (.int .i64 (y : Int)) := by
            rw [World.cell?_setCell_other _ _ _ _ (by simp)]
            exact r2
          obtain ⟨R3, hR3⟩ : ∃ R3, R3 = R2.set j ⟨(j : Int), R2[j].raw, R2[j].z, R2[j].body⟩ := ⟨_, rfl⟩
          rw [← hR3] at HS HR3
          obtain ⟨x0, hx0⟩ : ∃ x0, x0 = D[j].n := ⟨_, rfl⟩
          rw [← hx0] at r0
          clear hx0 hR3 hzv hget hzz r1 r3 hjR hjD hR40
          go_wp2_with fail
          have hbs := bel_set hbl (p := ⟨w.heap.size, j * 4, none⟩) (Nat.le_refl _) (.int .i64 (j : Int))
          go_roundw
          case rel => exact ⟨j + 1, m + y, R3, by omega, by go_num, by go_num, by omega, HZ2, HR3, HS, hbs⟩
          case measure => simp [intOf]; omega
        · have hjc : j = c := by omega
          have HZ2 := hid (show m = zs D by rw [HZ.out, List.take_of_length_le (by have := HC2.out; omega)])
          have HR3 := hid (show R2.take c = rn 0 D by rw [HR2.out, List.take_of_length_le (by have := HC2.out; omega), List.drop_eq_nil_of_le (by have := HC2.out; omega), List.append_nil])
          clear hjc HZ HR2
          by_cases hbig : m ≤ 2000
          · have hdec : decide ((m : Int) > 2000) = false := decide_eq_false (by omega)
            have HE2 := hid (show D.length ≤ 40 ∧ zs D ≤ 2000 from ⟨hD40, by rw [← HZ2.out]; exact hbig⟩)
            have HF := hid (show edS D = str (txt (rn 0 D)) by rw [edS, if_pos HE2.out])
            have HO := hid (show edO D = true from decide_eq_true HE2.out)
            have HV2 := hid (HV.out wr R2 hbl HRm.out HR3.out)
            clear HE2 HV
            go_wp2_with fail
            refine (HV2.out).mono ?_
            rintro e w2 ⟨rfl, hb2⟩
            go_wp2_with fail
            go_ret2
            exact ⟨by rw [← HD.out, HF.out, HO.out]; rfl, hbl.trans (hb2.mono hz)⟩
          · have hdec : decide ((m : Int) > 2000) = true := decide_eq_true (by omega)
            have HE2 := hid (show ¬ (D.length ≤ 40 ∧ zs D ≤ 2000) from fun hh => hbig (by rw [HZ2.out]; exact hh.2))
            have HF := hid (show edS D = ByteArray.empty by rw [edS, if_neg HE2.out])
            have HO := hid (show edO D = false from decide_eq_false HE2.out)
            clear HE2 HV
            go_wp2_with fail
            go_ret2
            exact ⟨by rw [← HD.out, HF.out, HO.out]; rfl, hbl⟩
end Go.Proofs.YtkglpbaapekgnaaDoor
