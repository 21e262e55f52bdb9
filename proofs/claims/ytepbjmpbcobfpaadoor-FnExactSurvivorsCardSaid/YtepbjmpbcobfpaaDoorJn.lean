/- Survivors in the model. No condition but that the strings are not too long. -/
import Derived.Test.YtepbjmpbcobfpaaDoorJh
import Derived.Test.YtepbjmpbcobfpaaDoorTf
import Derived.BigQuiet
namespace Go.Proofs.YtepbjmpbcobfpaaDoor
open Go.ChangeShapes Go.WideShapes Go.ChangeAt Go.RowKit Go.Joins
set_option linter.unusedVariables false
set_option linter.unusedSimpArgs false

theorem BlsAt.up2 {w : World} {L L' cap : Nat} {A : Option Addr} {l : List Bl} (h : BlsAt w L A cap l) (hL : L ≤ L') : BlsAt w L' A cap l :=
  ⟨h.1, h.2.1, h.2.2.1, fun hn => by
    obtain ⟨g, off, e, hg, hc⟩ := h.2.2.2 hn
    exact ⟨g, off, e, by omega, hc⟩⟩
/-- the first found block with a number -/
def firstIn (l : List Fo) (x : Int) : Option Fo := l.find? fun f => f.n == x
theorem firstIn_hit {l : List Fo} {x : Int} {k : Nat} (hk : k < l.length) (h : firstIn (l.take k) x = none) (hn : l[k].n = x) : firstIn l x = some l[k] := by
  have e : l = l.take k ++ l[k] :: l.drop (k + 1) := by rw [← List.drop_eq_getElem_cons hk, List.take_append_drop]
  rw [firstIn] at h ⊢
  refine (congrArg (List.find? fun f => f.n == x) e).trans ?_
  rw [List.find?_append, h, Option.none_or]
  exact List.find?_cons_of_pos (by simp [hn])
theorem firstIn_miss {l : List Fo} {x : Int} {k : Nat} (hk : k < l.length) (h : firstIn (l.take k) x = none) (hn : ¬ l[k].n = x) : firstIn (l.take (k + 1)) x = none := by
  rw [firstIn] at h ⊢
  rw [List.take_succ_eq_append_getElem hk, List.find?_append, h]
  simp [hn]
def fbV : Option Fo → Value
  | some f => .agg #[.int .i64 f.n, .bool f.raw, .int .i64 f.z, .string f.body]
  | none => .agg #[.int .i64 0, .bool false, .int .i64 0, .string ByteArray.empty]

set_option maxHeartbeats 4000000 in
set_option maxRecDepth 100000 in
theorem c_l7First (A : Option Addr) (cap : Nat) (l : List Fo) (L : Nat) (x : Int) (w : World) (h : FosAt w L A cap l) (hL : L ≤ w.heap.size) (hn : l.length ≤ 1000) : Calls Tryd.prog 25 #[.slice A l.length cap, .int .i64 x] w fun e w' => e = .returned (.tuple #[fbV (firstIn l x), .bool (firstIn l x).isSome]) ∧ Below w.heap.size w w' := by
  obtain ⟨N, hN⟩ : ∃ N, N = l.length := ⟨_, rfl⟩
  have HN := hid hN
  have HH := hid h
  rw [← hN] at hn ⊢
  have HX := hid (Blk.new w 35 #[.int .i64 0, .bool false, .int .i64 0, .string ByteArray.empty])
  have hbW : Below w.heap.size w (w.alloc (.cells #[.int .i64 0, .bool false, .int .i64 0, .string ByteArray.empty] 35)) := bel_alloc (Below.refl _ w) _
  have hzW : (w.alloc (.cells #[.int .i64 0, .bool false, .int .i64 0, .string ByteArray.empty] 35)).heap.size = w.heap.size + 1 := World.size_alloc _ _
  obtain ⟨W, hW⟩ : ∃ W, W = w.alloc (.cells #[.int .i64 0, .bool false, .int .i64 0, .string ByteArray.empty] 35) := ⟨_, rfl⟩
  rw [← hW] at HX hbW hzW
  have hlW : w.heap.size < W.heap.size := by omega
  have HW := hid hW
  clear hN h hzW hW
  go_enter Tryd.func25, Tryd.ntmps25
  go_wp2_with fail
  have hWs : w.alloc (.cells #[.int .i64 0, .bool false, .int .i64 0, .string ⟨#[]⟩] 35) = W := HW.out.symm
  rw [hWs]
  clear hWs
  go_loop [6] (fun i => ∃ k : Nat, k ≤ N ∧ i = .int .i64 k ∧ Hid (firstIn (l.take k) x = none)) (fun i => N - (intOf i).toNat)
  case atStart => exact ⟨0, Nat.zero_le _, rfl, hid rfl⟩
  case round =>
    obtain ⟨k, hk, rfl, HF⟩ := hrel
    obtain ⟨e0, e1, e2, e3⟩ := HX.out.cells4y
    have m0 := HX.out.frozen 0
    have m1 := HX.out.frozen 1
    have m2 := HX.out.frozen 2
    have m3 := HX.out.frozen 3
    by_cases hlt : k < N
    · have hlt2 : k < l.length := by have := HN.out; omega
      obtain ⟨b, off, hA, hb0, hc0, hc1, hc2, hc3, hc4⟩ := fo_at (HH.out.below hbW hL) k hlt2
      by_cases hnx : l[k].n = x
      · have HV := hid (firstIn_hit hlt2 HF.out hnx)
        obtain ⟨p, hp⟩ : ∃ p, p = l[k] := ⟨_, rfl⟩
        rw [← hp] at hc0 hc1 hc2 hc3 hc4 hnx HV
        have he : (p.n == x) = true := by rw [hnx]; simp
        have HV2 := hid (show fbV (firstIn l x) = .agg #[.int .i64 p.n, .bool p.raw, .int .i64 p.z, .string p.body] ∧ (firstIn l x).isSome = true by rw [HV.out]; exact ⟨rfl, rfl⟩)
        clear hp hlt2 hnx HV
        rw [hA]
        go_wp2_with fail
        obtain ⟨Wz, hWz⟩ : ∃ Wz, Wz = (((W.setCell ⟨w.heap.size, 0, none⟩ (.int .i64 p.n)).setCell ⟨w.heap.size, 1, none⟩ (.bool p.raw)).setCell ⟨w.heap.size, 2, none⟩ (.int .i64 p.z)).setCell ⟨w.heap.size, 3, none⟩ (.string p.body) := ⟨_, rfl⟩
        have K0 : Blk Wz w.heap.size 35 #[.int .i64 p.n, .bool p.raw, .int .i64 p.z, .string p.body] := by rw [hWz]; exact HX.out.put4y _ _ _ _
        have KB : Below w.heap.size w Wz := by rw [hWz]; exact bel_set (bel_set (bel_set (bel_set hbW (Nat.le_refl _) _) (Nat.le_refl _) _) (Nat.le_refl _) _) (Nat.le_refl _) _
        rw [← hWz]
        clear hWz e0 e1 e2 e3 m0 m1 m2 m3
        obtain ⟨z0, z1, z2, z3⟩ := K0.cells4y
        exact bodyPost_ret (v := .tuple #[.agg #[.int .i64 p.n, .bool p.raw, .int .i64 p.z, .string p.body], .bool true]) (by simp [results, Tryd.results25, go_sem, z0, z1, z2, z3]) rfl ⟨by rw [HV2.out.1, HV2.out.2], KB⟩
      · have HF2 := hid (firstIn_miss hlt2 HF.out hnx)
        obtain ⟨p, hp⟩ : ∃ p, p = l[k] := ⟨_, rfl⟩
        rw [← hp] at hc0 hc1 hc2 hc3 hc4 hnx
        have he : (p.n == x) = false := by simpa using hnx
        clear hp hlt2 hnx
        rw [hA]
        go_wp2_with fail
        go_round
        case rel => exact ⟨k + 1, by omega, by go_num, HF2⟩
        case measure => simp [intOf]; omega
    · have HV := hid (show firstIn l x = none by have := HF.out; rwa [List.take_of_length_le (by have := HN.out; omega)] at this)
      have HV2 := hid (show fbV (firstIn l x) = .agg #[.int .i64 0, .bool false, .int .i64 0, .string ByteArray.empty] ∧ (firstIn l x).isSome = false by rw [HV.out]; exact ⟨rfl, rfl⟩)
      clear HV
      go_wp2_with fail
      obtain ⟨Wz, hWz⟩ : ∃ Wz, Wz = (((W.setCell ⟨w.heap.size, 0, none⟩ (.int .i64 0)).setCell ⟨w.heap.size, 1, none⟩ (.bool false)).setCell ⟨w.heap.size, 2, none⟩ (.int .i64 0)).setCell ⟨w.heap.size, 3, none⟩ (.string ⟨#[]⟩) := ⟨_, rfl⟩
      have K0 : Blk Wz w.heap.size 35 #[.int .i64 0, .bool false, .int .i64 0, .string ByteArray.empty] := by rw [hWz]; exact HX.out.put4y _ _ _ _
      have KB : Below w.heap.size w Wz := by rw [hWz]; exact bel_set (bel_set (bel_set (bel_set hbW (Nat.le_refl _) _) (Nat.le_refl _) _) (Nat.le_refl _) _) (Nat.le_refl _) _
      rw [← hWz]
      clear hWz e0 e1 e2 e3 m0 m1 m2 m3
      obtain ⟨z0, z1, z2, z3⟩ := K0.cells4y
      exact bodyPost_ret (v := .tuple #[.agg #[.int .i64 0, .bool false, .int .i64 0, .string ByteArray.empty], .bool false]) (by simp [results, Tryd.results25, go_sem, z0, z1, z2, z3]) rfl ⟨by rw [HV2.out.1, HV2.out.2], KB⟩

def eqFB (f : Fo) (b : Bl) : Bool := f.n == b.n && (f.raw == b.raw && (f.z == b.z && f.body.toList == b.body.toList))
/-- the block with this number is found again as it was -/
def svOk (bs : List Bl) (l : List Fo) (i : Nat) : Bool := match firstIn l (i : Int), bs[i]? with
  | some f, some b => eqFB f b
  | _, _ => false
def svs (bs : List Bl) (l : List Fo) (k : Nat) : List Int := ((List.range k).filter (svOk bs l)).map fun (i : Nat) => (i : Int)
theorem svs_yes {bs : List Bl} {l : List Fo} {k : Nat} (h : svOk bs l k = true) : svs bs l (k + 1) = svs bs l k ++ [(k : Int)] := by
  simp [svs, List.range_succ, List.filter_append, h]
theorem svs_no {bs : List Bl} {l : List Fo} {k : Nat} (h : svOk bs l k = false) : svs bs l (k + 1) = svs bs l k := by
  simp [svs, List.range_succ, List.filter_append, h]
theorem svs_len (bs : List Bl) (l : List Fo) (k : Nat) : (svs bs l k).length ≤ k := by
  rw [svs, List.length_map]
  exact Nat.le_trans (List.length_filter_le _ _) (by simp)
theorem svOk_some {bs : List Bl} {l : List Fo} {k : Nat} {f : Fo} (h : firstIn l (k : Int) = some f) (hk : k < bs.length) : svOk bs l k = eqFB f bs[k] := by
  rw [svOk, h, List.getElem?_eq_getElem hk]
theorem svOk_none {bs : List Bl} {l : List Fo} {k : Nat} (h : firstIn l (k : Int) = none) : svOk bs l k = false := by
  rw [svOk, h]
theorem own_int0 (W : World) (B : Nat) (hB : B ≤ W.heap.size) : (W.alloc (.cells #[] 3)).ownsRow B 3 1 (.slice (some ⟨W.heap.size, 0, none⟩) 0 0) 0 (([] : List Int).map iv) := World.ownsRow_made (e := 3) (size := 1) (base := B) W #[] 0 hB (by simp) (by simp [maxLen])

theorem sv_elem {w : World} {B : Nat} {e : TypeId} {size n : Nat} {v : Value} {xs : List Value} (h : w.ownsRow B e size v n xs) (b : Nat) (hb : v.ownBlock = some b) : ∃ cs, w.heap[b]? = some (.cells cs e (0, 0)) := by
  rcases h.2 with ⟨rfl, _⟩ | ⟨g, cap', cur, rfl, _, hh, _⟩
  · simp [Value.ownBlock] at hb
  · have e3 : g = b := by simpa [Value.ownBlock] using hb
    subst e3
    exact ⟨cur, hh⟩
/-- rows of different elements are apart -/
theorem sv_apart {w : World} {B B2 : Nat} {e e2 : TypeId} {size size2 n n2 : Nat} {v v2 : Value} {xs xs2 : List Value} (h : w.ownsRow B e size v n xs) (h2 : w.ownsRow B2 e2 size2 v2 n2 xs2) (ht : e ≠ e2) : v.ownBlock = none ∨ v.ownBlock ≠ v2.ownBlock := by
  cases hv : v.ownBlock with
  | none => exact .inl rfl
  | some b =>
    refine .inr (fun e3 => ht ?_)
    obtain ⟨c1, h3⟩ := sv_elem h b hv
    obtain ⟨c2, h4⟩ := sv_elem h2 b e3.symm
    have h5 := h3.symm.trans h4
    simp at h5
    exact h5.2
theorem tyne_ib : 3 ≠ 35 := by decide
theorem tyne_if : 3 ≠ 40 := by decide
set_option maxHeartbeats 4000000 in
set_option maxRecDepth 100000 in
theorem run_eqBl (n n2 z z2 : Int) (r r2 : Bool) (d d2 : ByteArray) (W : World) : (binOp .eql 35 (.agg #[.int .i64 n, .bool r, .int .i64 z, .string d]) (.agg #[.int .i64 n2, .bool r2, .int .i64 z2, .string d2])).run Tryd.prog W = .ok (.bool (n == n2 && (r == r2 && (z == z2 && d.toList == d2.toList)))) W := by
  go_simp
  (repeat' split) <;> simp_all

set_option maxHeartbeats 4000000 in
set_option maxRecDepth 100000 in
theorem c_sSurvivors (S T : ByteArray) (L : List UInt8) (bs R : List Bl) (c : Nat) (l : List Fo) (w : World) (hS : S.size ≤ 1000000000000) (hL : L = S.data.toList) (hst : Stop L bs c) (hR : R = if c = 0 then bs else []) (hl : l.length ≤ 1000) (hF : ∀ v, Calls Tryd.prog 8 #[.string T] v fun e w' => ∃ A cap, e = .returned (.slice A l.length cap) ∧ w'.ownsRow v.heap.size 40 5 (.slice A l.length cap) l.length (fvs l) ∧ Below v.heap.size v w') : Calls Tryd.prog 13 #[.string S, .string T] w fun e w' => ∃ A cap, e = .returned (.slice A (svs R l R.length).length cap) ∧ w'.ownsRow w.heap.size 3 1 (.slice A (svs R l R.length).length cap) (svs R l R.length).length ((svs R l R.length).map iv) ∧ Below w.heap.size w w' := by
  have HB := hid (fun v => c_l5Blocks S L bs c v hS hL hst)
  rw [← hR] at HB
  have HF := hid hF
  have hR40 : R.length ≤ 40 := by
    rw [hR]; split
    · exact hst.brd.len_le
    · simp
  obtain ⟨N, hN⟩ : ∃ N, N = R.length := ⟨_, rfl⟩
  have HN := hid hN
  rw [← hN] at hR40 ⊢
  obtain ⟨q, hq⟩ : ∃ q, q = decide (c = 0) := ⟨_, rfl⟩
  rw [← hq] at HB
  clear hst hR hF hN hq
  go_enter Tryd.func13, Tryd.ntmps13
  go_wp2_with fail
  have hbA := bel_alloc (Below.refl _ w) (.cells #[] 3)
  refine (HB.out _).mono ?_
  rintro e w1 ⟨v1, rfl, own1, hb1⟩
  have hz0 : w.heap.size ≤ (w.alloc (.cells #[] 3)).heap.size := hbA.size
  have hB1 := hbA.trans (hb1.mono hz0)
  have ownI := own_on (own_int0 w w.heap.size (Nat.le_refl _)) hb1
  obtain ⟨A1, q1, rfl, -, -⟩ := own_bls own1
  have z1 := hB1.size
  rw [← HN.out] at own1 ⊢
  clear hb1
  go_wp2_with fail
  refine (HF.out _).mono ?_
  rintro e w2 ⟨A2, q2, rfl, own2, hb2⟩
  have hB2 := hB1.trans (hb2.mono z1)
  have z2 := hb2.size
  have own1b := own_mono (own_on own1 hb2) (Nat.zero_le _)
  have own2b := own_mono own2 (Nat.zero_le _)
  have ownI2 := own_on ownI hb2
  clear own1 own2 ownI hb2 hbA hB1
  obtain ⟨M, hM⟩ : ∃ M, M = l.length := ⟨_, rfl⟩
  have HM := hid hM
  rw [← hM] at hl own2b ⊢
  clear hM
  go_wp2_with fail
  go_loopw [5, 9] (fun v i wr => ∃ k : Nat, k ≤ N ∧ i = .int .i64 k ∧ wr.ownsRow w.heap.size 3 1 v (svs R l k).length ((svs R l k).map iv) ∧ wr.ownsRow 0 35 4 (.slice A1 N q1) N (bvs R) ∧ wr.ownsRow 0 40 5 (.slice A2 M q2) M (fvs l) ∧ Below w.heap.size w wr) (fun _ i _ => N - (intOf i).toNat)
  case atStart => exact ⟨0, Nat.zero_le _, rfl, by simpa [svs] using ownI2, own1b, own2b, hB2⟩
  case round =>
    clear ownI2 own1b own2b
    obtain ⟨k, hk, rfl, hown, hoB, hoF, hbl⟩ := hrel
    have hBl := hbl
    by_cases hlt : k < N
    · have hlt2 : k < R.length := by have := HN.out; omega
      have hFA := own_fosq hoF
      have HC := hid (c_l7First A2 q2 l wr.heap.size (k : Int) wr hFA (Nat.le_refl _) (by rw [← HM.out]; exact hl))
      rw [← HM.out] at HC
      have HO := hid hown
      have HOB := hid hoB
      have HOF := hid hoF
      clear hFA hoB hoF
      cases hf : firstIn l (k : Int) with
      | none =>
        have HS := hid (svs_no (svOk_none (bs := R) hf))
        rw [hf, show fbV none = .agg #[.int .i64 0, .bool false, .int .i64 0, .string ByteArray.empty] from rfl, show (none : Option Fo).isSome = false from rfl] at HC
        clear hown hf
        go_wp2_with fail
        refine (HC.out).mono ?_
        rintro e w3 ⟨rfl, hb3⟩
        have hRB := Blk.new w3 35 #[.int .i64 0, .bool false, .int .i64 0, .string ByteArray.empty]
        obtain ⟨r0, r1, r2, r3⟩ := hRB.cells4y
        have f0 := hRB.frozen 0
        have f1 := hRB.frozen 1
        have f2 := hRB.frozen 2
        have f3 := hRB.frozen 3
        clear hRB
        have hbl3 := hbl.trans (hb3.mono hbl.size)
        have HO3 := hid (own_on (own_on HO.out hb3) (bel_alloc (Below.refl _ w3) (.cells #[.int .i64 0, .bool false, .int .i64 0, .string ByteArray.empty] 35)))
        have HOB3 := hid (own_on (own_on HOB.out hb3) (bel_alloc (Below.refl _ w3) (.cells #[.int .i64 0, .bool false, .int .i64 0, .string ByteArray.empty] 35)))
        have HOF3 := hid (own_on (own_on HOF.out hb3) (bel_alloc (Below.refl _ w3) (.cells #[.int .i64 0, .bool false, .int .i64 0, .string ByteArray.empty] 35)))
        clear hb3
        go_wp2_with fail
        have hs2 := Below.refl (w3.alloc (.cells #[.int .i64 0, .bool false, .int .i64 0, .string ByteArray.empty] 35)).heap.size (w3.alloc (.cells #[.int .i64 0, .bool false, .int .i64 0, .string ByteArray.empty] 35))
        refine qB (S := (fun v => Below (w3.alloc (.cells #[.int .i64 0, .bool false, .int .i64 0, .string ByteArray.empty] 35)).heap.size (w3.alloc (.cells #[.int .i64 0, .bool false, .int .i64 0, .string ByteArray.empty] 35)) v)) (by kernel_rfl) (by kernel_rfl) (bel_drew hs2) ?_
        refine qK ?_
        refine qK ?_
        refine qU ?_
        refine qU ?_
        refine qU ?_
        refine qU ?_
        refine qU ?_
        refine qU ?_
        refine qK ?_
        refine qN ?_
        intro wq hSq
        (try dsimp only at hSq)
        have hbq := (hbl3.trans ((bel_alloc (Below.refl _ w3) (.cells #[.int .i64 0, .bool false, .int .i64 0, .string ByteArray.empty] 35)).mono hbl3.size)).trans (hSq.mono (Nat.le_trans hbl3.size (bel_alloc (Below.refl _ w3) (.cells #[.int .i64 0, .bool false, .int .i64 0, .string ByteArray.empty] 35)).size))
        have hownq := own_on HO3.out hSq
        have hoBq := own_on HOB3.out hSq
        have hoFq := own_on HOF3.out hSq
        clear hSq hs2
        rw [← HS.out] at hownq
        go_wp2_with fail
        go_roundw
        case rel => exact ⟨k + 1, by omega, by go_num, hownq, hoBq, hoFq, hbq⟩
        case measure => simp [intOf]; omega
      | some f =>
        have HSv := hid (svOk_some hf hlt2)
        rw [hf, show fbV (some f) = .agg #[.int .i64 f.n, .bool f.raw, .int .i64 f.z, .string f.body] from rfl, show (some f).isSome = true from rfl] at HC
        clear hown hf
        go_wp2_with fail
        refine (HC.out).mono ?_
        rintro e w3 ⟨rfl, hb3⟩
        have hRB := Blk.new w3 35 #[.int .i64 0, .bool false, .int .i64 0, .string ByteArray.empty]
        obtain ⟨r0, r1, r2, r3⟩ := hRB.cells4y
        have f0 := hRB.frozen 0
        have f1 := hRB.frozen 1
        have f2 := hRB.frozen 2
        have f3 := hRB.frozen 3
        clear hRB
        have hbl3 := hbl.trans (hb3.mono hbl.size)
        have HO3 := hid (own_on (own_on HO.out hb3) (bel_alloc (Below.refl _ w3) (.cells #[.int .i64 f.n, .bool f.raw, .int .i64 f.z, .string f.body] 35)))
        have HOB3 := hid (own_on (own_on HOB.out hb3) (bel_alloc (Below.refl _ w3) (.cells #[.int .i64 f.n, .bool f.raw, .int .i64 f.z, .string f.body] 35)))
        have HOF3 := hid (own_on (own_on HOF.out hb3) (bel_alloc (Below.refl _ w3) (.cells #[.int .i64 f.n, .bool f.raw, .int .i64 f.z, .string f.body] 35)))
        obtain ⟨b, off, hA, hbb, hc0, hc1, hc2, hc3⟩ := bl_at (own_blsq (own_on HOB.out hb3)) k hlt2
        subst hA
        obtain ⟨p, hp⟩ : ∃ p, p = R[k] := ⟨_, rfl⟩
        rw [← hp] at hc0 hc1 hc2 hc3 HSv
        have HS := hid HSv.out
        have heq := run_eqBl f.n p.n f.z p.z f.raw p.raw f.body p.body
        have hB3 := bel_alloc (Below.refl _ w3) (.cells #[.int .i64 f.n, .bool f.raw, .int .i64 f.z, .string f.body] 35)
        have hz3 := hbl3.size
        have X3 := Blk.new w3 35 #[.int .i64 f.n, .bool f.raw, .int .i64 f.z, .string f.body]
        obtain ⟨V3, hV3⟩ : ∃ V3, V3 = w3.alloc (.cells #[.int .i64 f.n, .bool f.raw, .int .i64 f.z, .string f.body] 35) := ⟨_, rfl⟩
        have d0 := cell_to hc0 hB3
        have d1 := cell_to hc1 hB3
        have d2 := cell_to hc2 hB3
        have d3 := cell_to hc3 hB3
        clear hp hb3 hc0 hc1 hc2 hc3 HSv
        go_wp2_with fail
        rw [← hV3] at d0 d1 d2 d3 X3 hB3 HO3 HOB3 HOF3 ⊢
        clear hV3
        obtain ⟨x0, x1, x2, x3⟩ := X3.cells4y
        have hs2 : V3.cell? ⟨w3.heap.size, 0, none⟩ = some (.int .i64 f.n) ∧ V3.cell? ⟨w3.heap.size, 1, none⟩ = some (.bool f.raw) ∧ V3.cell? ⟨w3.heap.size, 2, none⟩ = some (.int .i64 f.z) ∧ V3.cell? ⟨w3.heap.size, 3, none⟩ = some (.string f.body) ∧ V3.cell? ⟨b, off + k * 4, none⟩ = some (.int .i64 p.n) ∧ V3.cell? ⟨b, off + k * 4 + 1, none⟩ = some (.bool p.raw) ∧ V3.cell? ⟨b, off + k * 4 + 2, none⟩ = some (.int .i64 p.z) ∧ V3.cell? ⟨b, off + k * 4 + 3, none⟩ = some (.string p.body) ∧ Below V3.heap.size V3 V3 := ⟨x0, x1, x2, x3, d0, d1, d2, d3, Below.refl _ _⟩
        clear d0 d1 d2 d3 X3 x0 x1 x2 x3 r0 r1 r2 r3 f0 f1 f2 f3
        refine qB (S := (fun v => v.cell? ⟨w3.heap.size, 0, none⟩ = some (.int .i64 f.n) ∧ v.cell? ⟨w3.heap.size, 1, none⟩ = some (.bool f.raw) ∧ v.cell? ⟨w3.heap.size, 2, none⟩ = some (.int .i64 f.z) ∧ v.cell? ⟨w3.heap.size, 3, none⟩ = some (.string f.body) ∧ v.cell? ⟨b, off + k * 4, none⟩ = some (.int .i64 p.n) ∧ v.cell? ⟨b, off + k * 4 + 1, none⟩ = some (.bool p.raw) ∧ v.cell? ⟨b, off + k * 4 + 2, none⟩ = some (.int .i64 p.z) ∧ v.cell? ⟨b, off + k * 4 + 3, none⟩ = some (.string p.body) ∧ Below V3.heap.size V3 v)) (by kernel_rfl) (by kernel_rfl) (s8_drew hs2) ?_
        refine qK ?_
        refine qK ?_
        refine qK ?_
        refine qK ?_
        refine qK ?_
        refine qK ?_
        refine qK ?_
        refine qK ?_
        refine qK ?_
        refine qN ?_
        intro wq hSq
        (try dsimp only at hSq)
        obtain ⟨-, -, -, -, -, -, -, -, hbS⟩ := hSq
        have hbq := (hbl3.trans (hB3.mono hz3)).trans (hbS.mono (Nat.le_trans hz3 hB3.size))
        have hownq := hid (own_on HO3.out hbS)
        have HoBq := hid (own_on HOB3.out hbS)
        have HoFq := hid (own_on HOF3.out hbS)
        clear hs2 hbS
        have hszq := hbq.size
        have hLk := svs_len R l k
        cases hqq : eqFB f p with
        | true =>
          have HS1 := hid (svs_yes (HS.out.trans hqq))
          rw [show (f.n == p.n && (f.raw == p.raw && (f.z == p.z && f.body.toList == p.body.toList))) = true from hqq]
          clear hqq
          go_wp2_with (at_builtin; refine app_int rfl _ _ 29 rfl w.heap.size 3 Tryd.underlying29 Tryd.info_int _ _ (svs R l k) rfl hownq.out (k : Int) _ rfl 1 rfl (by omega) hszq ?_; intro v4 w4 hown4 hb4 hg4)
          rw [← HS1.out] at hown4
          have hl4 : (svs R l k).length + 1 = (svs R l (k + 1)).length := by rw [HS1.out, List.length_append]; rfl
          rw [hl4] at hown4
          go_roundw
          case rel => exact ⟨k + 1, by omega, by go_num, hown4, HoBq.out.kept hg4 (sv_apart HoBq.out hownq.out tyne_ib.symm), HoFq.out.kept hg4 (sv_apart HoFq.out hownq.out tyne_if.symm), hbq.trans hb4⟩
          case measure => simp [intOf]; omega
        | false =>
          have HS1 := hid (svs_no (HS.out.trans hqq))
          rw [show (f.n == p.n && (f.raw == p.raw && (f.z == p.z && f.body.toList == p.body.toList))) = false from hqq]
          clear hqq
          go_wp2_with fail
          have hownr := hownq.out
          rw [← HS1.out] at hownr
          go_roundw
          case rel => exact ⟨k + 1, by omega, by go_num, hownr, HoBq.out, HoFq.out, hbq⟩
          case measure => simp [intOf]; omega
    · have hkN : k = N := by omega
      obtain ⟨A9, q9, rfl, -, -, -⟩ := own_ints hown
      rw [hkN] at hown ⊢
      clear hkN
      go_wp2_with fail
      go_ret
      exact ⟨_, _, rfl, hown, hBl⟩
end Go.Proofs.YtepbjmpbcobfpaaDoor
