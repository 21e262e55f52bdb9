/- Slices of strings: in memory, owned, made, appended to; the laws' own helpers on them. No condition but that they are not too long. -/
import Derived.Test.YtlekjmgjnnljcaaBb
import Derived.Test.YtlekjmgjnnljcaaBa
import Derived.SliceStrings
import Derived.Lib.AppendZerosOnto
import Derived.Deep.QuietTactic
import Derived.BigQuiet
namespace Go.Proofs.Ytlekjmgjnnljcaa
open Go.ChangeShapes Go.WideShapes Go.ChangeAt Go.RowKit Go.Joins
set_option linter.unusedVariables false

def sv (s : ByteArray) : Value := .string s
/-- A slice of strings, in a block below L. -/
def StrsAt (w : World) (L : Nat) (A : Option Addr) (cap : Nat) (l : List ByteArray) : Prop :=
  l.length ≤ cap ∧ cap ≤ maxLen ∧ (A = none → cap = 0) ∧ (0 < l.length → ∃ b off, A = some ⟨b, off, none⟩ ∧ b < L ∧ ∀ i n, l[i]? = some n → w.cell? ⟨b, off + i, none⟩ = some (.string n))
theorem StrsAt.keep {w w' : World} {L cap : Nat} {A : Option Addr} {l : List ByteArray} (h : StrsAt w L A cap l) (hk : ∀ k, k < L → w'.heap[k]? = w.heap[k]?) : StrsAt w' L A cap l :=
  ⟨h.1, h.2.1, h.2.2.1, fun hn => by
    obtain ⟨b, off, e, hb, hc⟩ := h.2.2.2 hn
    exact ⟨b, off, e, hb, fun i p hi => (World.cell?_of_block (a := ⟨b, off + i, none⟩) (hk b hb)).trans (hc i p hi)⟩⟩
theorem StrsAt.mono {w : World} {L L' cap : Nat} {A : Option Addr} {l : List ByteArray} (h : StrsAt w L A cap l) (hL : L ≤ L') : StrsAt w L' A cap l :=
  ⟨h.1, h.2.1, h.2.2.1, fun hn => by obtain ⟨b, off, e, hb, hc⟩ := h.2.2.2 hn; exact ⟨b, off, e, by omega, hc⟩⟩
theorem StrsAt.below {w w' : World} {L B cap : Nat} {A : Option Addr} {l : List ByteArray} (h : StrsAt w L A cap l) (hb : Below B w w') (hL : L ≤ B) : StrsAt w' L A cap l :=
  h.keep fun k hk => hb.block k (by omega)
theorem StrsAt.alloc {w : World} {L cap : Nat} {A : Option Addr} {l : List ByteArray} (h : StrsAt w L A cap l) (hL : L ≤ w.heap.size) (o : Obj) : StrsAt (w.alloc o) L A cap l :=
  h.keep fun k hk => Below.heap_alloc w o k (by omega)
theorem StrsAt.nil (w : World) (L : Nat) : StrsAt w L none 0 [] := ⟨Nat.zero_le _, by simp [maxLen], fun _ => rfl, fun hn => absurd hn (by simp)⟩
theorem txt_at {w : World} {L cap : Nat} {A : Option Addr} {l : List ByteArray} (h : StrsAt w L A cap l) (i : Nat) (hi : i < l.length) : ∃ b off, A = some ⟨b, off, none⟩ ∧ b < L ∧ w.cell? ⟨b, off + i, none⟩ = some (.string l[i]) := by
  obtain ⟨b, off, e, hb, hc⟩ := h.2.2.2 (by omega)
  exact ⟨b, off, e, hb, hc i l[i] (List.getElem?_eq_getElem hi)⟩
theorem svs_len (l : List ByteArray) : (l.map sv).length = l.length := by simp
/-- What owns strings holds them. -/
theorem own_strs {w : World} {B : Nat} {e : TypeId} {v : Value} {n : Nat} {l : List ByteArray} (h : w.ownsRow B e 1 v n (l.map sv)) : ∃ A cap, v = .slice A l.length cap ∧ StrsAt w w.heap.size A cap l ∧ n = l.length ∧ (A = none ∨ ∃ g, A = some ⟨g, 0, none⟩ ∧ B ≤ g ∧ g < w.heap.size) := by
  have hl := h.1
  rw [svs_len] at hl
  have hn : n = l.length := by omega
  subst hn
  have hlt := h.lt
  rcases h.2 with ⟨rfl, h0⟩ | ⟨g, cap, cur, rfl, hb, hh, hnc, hcm, hsz, htk⟩
  · have : l = [] := List.length_eq_zero_iff.1 h0
    subst this
    exact ⟨none, 0, rfl, StrsAt.nil _ _, rfl, .inl rfl⟩
  · have hg := hlt g rfl
    refine ⟨some ⟨g, 0, none⟩, cap, rfl, ⟨hnc, hcm, by simp, fun hn => ⟨g, 0, rfl, hg.2, fun i p hi => ?_⟩⟩, rfl, .inr ⟨g, rfl, hb, hg.2⟩⟩
    have hi2 := get_lt hi
    have c0 := h.cellAt i (by omega)
    rw [Nat.zero_add]
    refine c0.trans ?_
    rw [List.getElem?_map, hi]; rfl
theorem own_strs_nil (w : World) (B : Nat) (e : TypeId) : w.ownsRow B e 1 (.slice none 0 0) 0 (([] : List ByteArray).map sv) := World.ownsRow_nil w B e 1
theorem own_strs_at {w : World} {B : Nat} {e : TypeId} {A : Option Addr} {n cap : Nat} {l : List ByteArray} (h : w.ownsRow B e 1 (.slice A n cap) n (l.map sv)) : StrsAt w w.heap.size A cap l := by
  obtain ⟨A', c', e1, h1, h2, _⟩ := own_strs h
  simp at e1
  obtain ⟨rfl, _, rfl⟩ := e1
  exact h1
theorem own_slen {w : World} {B : Nat} {e : TypeId} {v : Value} {n : Nat} {l : List ByteArray} (h : w.ownsRow B e 1 v n (l.map sv)) : l.length = n := by have := h.1; simpa using this

/-- 'out = append(out, x)' of one string, out the call's own: ONE goal is left. -/
theorem app_txt {P : Program} {w : World} {ops : Array Oper} {rest : List Oper} {o : Oper} {a : Act} {Q : Exit → Act → World → Prop} (hgd : o.guard = none) (s x : Operand) (t : TypeId)
    (ho : o.op = .call { callee := .builtin .append, args := #[s, x], argTypes := #[t, t] }) (B : Nat) (e : TypeId) (ht : P.underlying t = some (.slice e))
    (hinfo : (P.info? e).map (fun i => (i.zero, i.size, i.bytes)) = some (some (.string ByteArray.empty), 1, 16)) (v : Value) (n : Nat) (l : List ByteArray) (hs : a.eval s = v) (hown : w.ownsRow B e 1 v n (l.map sv)) (c X : ByteArray) (hX : X = c) (cp : Nat)
    (hx : a.eval x = .slice (some ⟨w.heap.size, 0, none⟩) 1 cp) (hn : n ≤ 1000000000000) (hB : B ≤ w.heap.size)
    (h : ∀ v' w', w'.ownsRow B e 1 v' (n + 1) ((l ++ [c]).map sv) → Below B w w' → w.grownBy w' v.ownBlock → wpList P ops Q rest (a.put o.dst v') w') : wpList P ops Q (o :: rest) a (w.alloc (.cells #[.string X] e)) := by
  obtain ⟨i0, hi, hz0, hz1, hz2⟩ := info_parts hinfo
  subst hX
  refine wpList_append_own _ hgd s x t ho B e i0 (.string ByteArray.empty) 1 16 ht hi hz0 hz1 hz2 rfl (by decide) v n (l.map sv) hs (hown.alloc _) ⟨w.heap.size, 0, none⟩ 1 cp [.string X] hx rfl (one_new w _ e) ?_ ?_ (by omega) ?_ ?_
  · intro u hu; simp at hu; subst hu; rfl
  · unfold maxLen; omega
  · have := World.size_alloc w (.cells #[.string X] e); omega
  · intro v' w' hown' hg _
    have hg2 : w.grownBy w' v.ownBlock := grown_trans (World.grownBy_alloc w _ _) hg
    refine h v' w' ?_ (below_of_grown hg2 hB (fun g hg => (hown.lt g hg).1)) hg2
    simpa [sv] using hown'
theorem made_strs (n : Nat) : (madeCells (Value.string ByteArray.empty).cells (n * 1)).toList = (List.replicate n ByteArray.empty).map sv := by
  rw [Nat.mul_one]
  refine (toList_madeCells_one (.string ByteArray.empty) n).trans ?_
  simp [sv]
/-- 'make([]string, n)': ONE goal is left. -/
theorem make_strs {P : Program} {w : World} {ops : Array Oper} {rest : List Oper} {o : Oper} {a : Act} {Q : Exit → Act → World → Prop} (hg : o.guard = none) (l c : Operand) (t : TypeId) (hop : o.op = Op.makeSlice t l c)
    (B : Nat) (e : TypeId) (ht : P.underlying t = some (.slice e)) (hinfo : (P.info? e).map (fun i => (i.zero, i.size, i.bytes)) = some (some (.string ByteArray.empty), 1, 16)) (kl kc : IntKind) (L C : Int) (n : Nat)
    (hl : a.eval l = .int kl L) (hc : a.eval c = .int kc C) (hL : L = (n : Int)) (hC : C = (n : Int)) (hn : n ≤ 1000000000000) (hB : B ≤ w.heap.size)
    (hK : ∀ w', w'.ownsRow B e 1 (.slice (some ⟨w.heap.size, 0, none⟩) n n) n ((List.replicate n ByteArray.empty).map sv) → Below B w w' → w.grownBy w' none → wpList P ops Q rest (a.put o.dst (.slice (some ⟨w.heap.size, 0, none⟩) n n)) w') : wpList P ops Q (o :: rest) a w := by
  obtain ⟨i0, hi, hz0, hz1, hz2⟩ := info_parts hinfo
  refine wpList_make_full w hg l c t hop B e i0 (.string ByteArray.empty) 1 ht hi hz0 hz1 kl kc L C n hl hc hL hC (by rw [hz2]; omega) (by unfold maxLen; omega) hB ?_
  intro w' hown hg'
  rw [made_strs] at hown
  exact hK w' hown (below_of_grown hg' hB (by simp)) hg'
theorem own_txt {w : World} {B : Nat} {e : TypeId} {G n cap : Nat} {l : List ByteArray} (h : w.ownsRow B e 1 (.slice (some ⟨G, 0, none⟩) n cap) n (l.map sv)) (k : Nat) (p : ByteArray) (hk : l[k]? = some p) : w.cell? ⟨G, k, none⟩ = some (.string p) := by
  have hl := own_slen h
  have hk2 := get_lt hk
  refine (h.cellAt k (by omega)).trans ?_
  rw [List.getElem?_map, hk]; rfl
theorem own_store_txt {w : World} {B : Nat} {e : TypeId} {G n cap : Nat} {l : List ByteArray} (h : w.ownsRow B e 1 (.slice (some ⟨G, 0, none⟩) n cap) n (l.map sv)) (k : Nat) (p : ByteArray) :
    (w.setCell ⟨G, k, none⟩ (.string p)).ownsRow B e 1 (.slice (some ⟨G, 0, none⟩) n cap) n ((l.set k p).map sv) := by
  have h1 := (h.stored k (.string p)).1
  rw [List.map_set]; exact h1

theorem Try.info_txt : (Try.prog.info? 9).map (fun i => (i.zero, i.size, i.bytes)) = some (some (.string ByteArray.empty), 1, 16) := by kernel_rfl

/-- all of them are within an int -/
def StrsB (l : List ByteArray) : Prop := ∀ s ∈ l, s.size ≤ maxLen

theorem strs_of {H : Type} {enc : TypeId × Value → H} {P : Program} {w : World} {base : Nat} {spare : Nat → Bool} {held : Bool} {t e : TypeId} {A : Option Addr} {n cap : Nat} {d : DataW H} {ps : List MemPlace}
    (ht : P.underlying t = some (.slice e)) (he : P.underlying e = some .string) (hc : P.cellsOf e = 1)
    (h : DataW.Trod enc P w base spare held t (.slice A n cap) d ps) : ∃ l : List ByteArray, n = l.length ∧ StrsAt w w.heap.size A cap l ∧ StrsB l := by
  obtain ⟨fuel, hf⟩ := h
  rcases Go.ChangeShapes.open_strings ht he hc hf with ⟨hcs, _⟩ | ⟨a, l, c, zs, hcs, _, hl, hm, hz, _, hcell, hwz⟩
  · simp [Value.cells] at hcs
    obtain ⟨rfl, rfl, rfl⟩ := hcs
    exact ⟨[], rfl, StrsAt.nil _ _, fun x hx => by simp at hx⟩
  · simp [Value.cells] at hcs
    obtain ⟨rfl, rfl, rfl⟩ := hcs
    have hzl : n ≤ zs.length := by rw [hz]; split <;> omega
    have hlen : (zs.take n).length = n := by simp; omega
    refine ⟨zs.take n, hlen.symm, ⟨by rw [hlen]; exact hl, hm, by simp, fun hn => ?_⟩, fun x hx => hwz x (List.mem_of_mem_take hx)⟩
    rw [hlen] at hn
    obtain ⟨b, off, spot⟩ := a
    have hc0 := hcell 0 (by omega)
    have hspot : spot = none := by simpa [Addr.add] using World.cell?_spot hc0
    subst hspot
    refine ⟨b, off, rfl, ?_, fun i p hi => ?_⟩
    · have := World.block_lt_of_cell? _ _ hc0
      simpa [Addr.add] using this
    · have hi2 := get_lt hi
      rw [hlen] at hi2
      have hci := hcell i (by omega)
      rw [List.getElem?_take, if_pos hi2] at hi
      rw [List.getD_eq_getElem?_getD, hi] at hci
      rw [← show ((⟨b, off, none⟩ : Addr).add i) = ⟨b, off + i, none⟩ by unfold Addr.add; split <;> simp_all]
      simpa using hci

/-- the bytes of all -/
def tot (l : List ByteArray) : Nat := (l.map ByteArray.size).sum
theorem tot_take (l : List ByteArray) (k : Nat) (h : k < l.length) : tot (l.take (k + 1)) = tot (l.take k) + l[k].size := by
  unfold tot; rw [List.take_succ_eq_append_getElem h, List.map_append, List.sum_append]; simp
theorem tot_le (l : List ByteArray) (k : Nat) : tot (l.take k) ≤ tot l := by
  have h : l = l.take k ++ l.drop k := (List.take_append_drop k l).symm
  have h2 : tot (l.take k ++ l.drop k) = tot (l.take k) + tot (l.drop k) := by
    unfold tot; rw [List.map_append, List.sum_append]
  rw [← h] at h2
  omega
theorem size_le_tot (l : List ByteArray) (s : ByteArray) (h : s ∈ l) : s.size ≤ tot l := by
  obtain ⟨i, hi, rfl⟩ := List.getElem_of_mem h
  have := tot_take l i hi
  have := tot_le l (i + 1)
  omega

theorem zero_cells (n : Nat) : (Builtin.zeroCells (Value.int .u8 0).cells n) = ((List.replicate n (0 : UInt8)).map vb).toArray := by
  apply Array.ext
  · simp [Builtin.zeroCells, Value.cells]
  · intro j h1 h2
    simp [Builtin.zeroCells, Value.cells, vb, Nat.mod_one]

theorem row_zeros {w : World} {B : Nat} {e : TypeId} {n m c : Nat} {l : List UInt8} (hl : l.length = n) (hc : n + m ≤ c) (hc2 : c ≤ maxLen) (hB : B ≤ w.heap.size) :
    (w.drew.alloc (.cells ((l.map vb).toArray ++ Builtin.zeroCells (Value.int .u8 0).cells m ++ Builtin.zeroCells (Value.int .u8 0).cells (c - (n + m))) e)).ownsRow B e 1 (.slice (some ⟨w.heap.size, 0, none⟩) (n + m) c) (n + m) ((l ++ List.replicate m (0 : UInt8)).map vb) ∧
    ∀ r, w.grownBy (w.drew.alloc (.cells ((l.map vb).toArray ++ Builtin.zeroCells (Value.int .u8 0).cells m ++ Builtin.zeroCells (Value.int .u8 0).cells (c - (n + m))) e)) r := by
  refine ⟨⟨by simp [hl], .inr ⟨w.heap.size, _, _, rfl, hB, heap_alloc_new w.drew _, hc, hc2, ?_, ?_⟩⟩, fun r => ⟨rfl, rfl, rfl, by simp, fun k hk _ => heap_alloc_old w.drew _ hk⟩⟩
  · simp only [zero_cells, Array.size_append, List.size_toArray, List.length_map, List.length_replicate, hl]; omega
  · simp only [zero_cells, List.append_toArray, List.map_append]
    exact List.take_left' (by simp [hl])

theorem run_zeros {P : Program} (w : World) (B : Nat) (t tn ty e : TypeId) (i : TypeInfo) (kq kn : IntKind) (ht : P.underlying t = some (.slice e)) (htn : P.underlying tn = some (.int kn)) (hi : P.info? e = some i) (hz : i.zero = some (.int .u8 0)) (h1 : i.size = 1) (h2 : i.bytes = 1)
    (v : Value) (n : Nat) (l : List UInt8) (hown : w.ownsRow B e 1 v n (l.map vb)) (m : Nat) (hn : n + m ≤ 100000000000) (hB : B ≤ w.heap.size) :
    ∃ v' w', (Builtin.append_ #[t, tn] ty #[v, .int kq m]).run P w = .ok v' w' ∧ w'.ownsRow B e 1 v' (n + m) ((l ++ List.replicate m (0 : UInt8)).map vb) ∧ w.grownBy w' v.ownBlock := by
  have hl := own_len hown
  have hw : IntKind.i64.wrap (m : Int) = m := by rw [IntKind.wrap_i64]; omega
  have w0 : IntKind.i64.wrap 0 = 0 := by decide
  have hneg : ¬ ((m : Int) < 0) := by omega
  have h48i : ¬ (281474976710656 < (m : Int) * (i.bytes : Int)) := by rw [h2]; omega
  rcases hown.2 with ⟨rfl, rfl⟩ | ⟨g, cap, cur, rfl, hbg, hg, hnc, hcm, hcs, htk⟩
  · have hl0 : l = [] := List.eq_nil_of_length_eq_zero hl
    subst hl0
    by_cases hm : m = 0
    · subst hm
      refine ⟨.slice none 0 0, w, ?_, by simpa using own_nil w B e, grown_refl _ _⟩
      simp [Builtin.append_, run_underlying ht, run_underlying htn, sizeOf, typeInfo, hi, asInt, asIntOf, w0]
    · have hr := Lib.run_append_nil_zeros (P := P) w t tn ty e i (.int .u8 0) kq kn ht htn hi hz m (by omega) (by omega) (by omega) (by omega)
      have hh := row_zeros (w := w) (B := B) (e := e) (n := 0) (m := m) (c := grownCap w m 0 e) (l := []) rfl (by have := grownCap_ge w m 0 e; omega) (grownCap_le_maxLen w m 0 e (by unfold maxLen; omega)) hB
      simp only [List.map_nil, Nat.zero_add, Array.empty_append] at hh
      exact ⟨_, _, hr, by simpa using hh.1, hh.2 _⟩
  · by_cases hroom : n + m ≤ cap
    · by_cases hm : m = 0
      · subst hm
        refine ⟨.slice (some ⟨g, 0, none⟩) n cap, w, ?_, by simpa using hown, grown_refl _ _⟩
        simp [Builtin.append_, run_underlying ht, run_underlying htn, sizeOf, typeInfo, hi, asInt, asIntOf, w0, hnc, storeCells]
      · have hfit : n + 0 + ((List.replicate m (0 : UInt8)).map vb).length ≤ cur.size := by simp; omega
        have hst := run_storeCells_at P g n e ((List.replicate m (0 : UInt8)).map vb) 0 cur w hg hfit (by intro u hu; simp at hu; obtain ⟨_, rfl⟩ := hu; rfl)
        have htk2 : cur.toList.take n = l.map vb := by rw [← htk, Nat.mul_one]
        have hr : (Builtin.append_ #[t, tn] ty #[.slice (some ⟨g, 0, none⟩) n cap, .int kq m]).run P w = .ok (.slice (some ⟨g, 0, none⟩) (n + m) cap) (w.setRow g (cur.toList.take n ++ (List.replicate m (0 : UInt8)).map vb ++ cur.toList.drop (n + m)).toArray) := by
          have e1 : (Builtin.zeroCells (Value.int .u8 0).cells m).toList = (List.replicate m (0 : UInt8)).map vb := by rw [zero_cells]
          simp only [Nat.add_zero, List.length_map, List.length_replicate] at hst
          simp [-List.map_replicate, Builtin.append_, run_underlying ht, run_underlying htn, sizeOf, typeInfo, zeroValue, hi, hz, h1, asInt, asIntOf, hw, hneg, h48i, hroom, hm, Addr.add_lit, e1, hst]
        refine ⟨_, _, hr, ⟨by simp [hl], .inr ⟨g, cap, _, rfl, hbg, setRow_heap w g cur _ e _ hg, hroom, hcm, ?_, ?_⟩⟩, ⟨rfl, rfl, rfl, by simp, fun k _ hk => setRow_other w g k _ (fun e => hk (by simp [Value.ownBlock, e]))⟩⟩
        · simp; omega
        · rw [htk2, ← List.map_append]
          exact List.take_left' (by simp [hl])
    · have hold := run_firstCells_some (P := P) w.drew i.size n ⟨g, 0, none⟩ n cap (l.map vb) (by rw [h1]; simp [hl]) (fun j u hu => by
        have hc := (hown.cells (g := g) rfl) j u hu
        simpa using hc)
      have hr := Lib.run_append_grow_zeros (P := P) w t tn ty e i (.int .u8 0) kq kn ht htn hi hz (some ⟨g, 0, none⟩) n cap (l.map vb) hold m (by omega) (by omega) (by omega) (by omega) (by omega) (growslice_fits (by omega) (by rw [h2]; omega))
      have hh := row_zeros (w := w) (B := B) (e := e) (n := n) (m := m) (c := grownCap w (n + m) cap e) (l := l) hl (grownCap_ge w (n + m) cap e) (grownCap_le_maxLen w (n + m) cap e (by unfold maxLen; omega)) hB
      exact ⟨_, _, hr, hh.1, hh.2 _⟩

/-- 'out = append(out, make([]byte, m)...)', out the call's own: ONE goal is left. -/
theorem app_zeros {P : Program} {w : World} {ops : Array Oper} {rest : List Oper} {o : Oper} {a : Act} {Q : Exit → Act → World → Prop} (hgd : o.guard = none) (sl x : Operand) (t tn : TypeId)
    (ho : o.op = .call { callee := .builtin .append, args := #[sl, x], argTypes := #[t, tn] }) (B : Nat) (e : TypeId) (kq kn : IntKind) (ht : P.underlying t = some (.slice e)) (htn : P.underlying tn = some (.int kn))
    (hinfo : (P.info? e).map (fun i => (i.zero, i.size, i.bytes)) = some (some (.int .u8 0), 1, 1)) (v : Value) (n : Nat) (l : List UInt8) (hs : a.eval sl = v) (hown : w.ownsRow B e 1 v n (l.map vb)) (X : Int) (m : Nat) (hx : a.eval x = .int kq X) (hX : X = m)
    (hn : n + m ≤ 100000000000) (hB : B ≤ w.heap.size)
    (h : ∀ v' w', w'.ownsRow B e 1 v' (n + m) ((l ++ List.replicate m (0 : UInt8)).map vb) → Below B w w' → w.grownBy w' v.ownBlock → wpList P ops Q rest (a.put o.dst v') w') : wpList P ops Q (o :: rest) a w := by
  obtain ⟨i0, hi, hz0, hz1, hz2⟩ := info_parts hinfo
  subst hX
  obtain ⟨v', w', hr, hown', hg⟩ := run_zeros (P := P) w B t tn o.type e i0 kq kn ht htn hi hz0 hz1 hz2 v n l hown m hn hB
  exact Lib.wpList_append_run w hgd sl x t tn ho v (.int kq m) hs hx v' w' hr (h v' w' hown' (below_of_grown hg hB (fun g hg => (hown.lt g hg).1)) hg)

end Go.Proofs.Ytlekjmgjnnljcaa
