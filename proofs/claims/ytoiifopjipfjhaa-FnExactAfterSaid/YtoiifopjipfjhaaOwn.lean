/- Bytes that the call itself has gathered: a slice that owns them, read back as a string. -/
import Derived.Test.YtoiifopjipfjhaaStr
import Derived.Laws.IdiomStrings
import Derived.Laws.CopyOwn
import Derived.Lib.AppendStr
namespace Go.Proofs.Ytoiifopjipfjhaa
open Go.ChangeShapes Go.WideShapes Go.ChangeAt Go.RowKit Go.Joins
set_option linter.unusedVariables false

def vb (c : UInt8) : Value := .int .u8 (c.toNat : Int)

theorem run_str {P : Program} {w : World} {base : Nat} {e : TypeId} {n : Nat} {v : Value} {l : List UInt8} {src dst : TypeId} (hs : P.underlying src = some (.slice e)) (he : P.underlying e = some (.int .u8)) (hd : P.underlying dst = some .string)
    (hown : w.ownsRow base e 1 v n (l.map vb)) : (convert src dst v).run P w = .ok (.string ⟨l.toArray⟩) w := by
  obtain ⟨hl, h⟩ := hown
  simp only [List.length_map, Nat.mul_one] at hl
  rcases h with ⟨rfl, rfl⟩ | ⟨g, cap, cur, rfl, hb, hh, hnc, hcm, hsz, htk⟩
  · have : l = [] := List.length_eq_zero_iff.1 hl
    subst this
    rw [run_convert_bytes_string w src dst e none 0 0 hs he hd]
    simp [Conv.bytesToString]
    rfl
  · subst hl
    refine run_convert_bytes_back w src dst e ⟨g, 0, none⟩ cap l hs he hd ?_
    intro j hj
    have h2 : w.cell? ⟨g, j, none⟩ = cur[j]? := cell_of_row w g j cur e (0, 0) hh
    have h3 : ((⟨g, 0, none⟩ : Addr).add j) = ⟨g, j, none⟩ := by unfold Addr.add; split <;> simp_all
    rw [h3, h2]
    have h4 : (cur.toList.take (l.length * 1))[j]? = (l.map vb)[j]? := by rw [htk]
    rw [List.getElem?_take, if_pos (by omega)] at h4
    have h5 : cur[j]? = cur.toList[j]? := by simp
    rw [h5, h4, List.getElem?_map, List.getElem?_eq_getElem hj]
    rfl

theorem own_nil (w : World) (B : Nat) (e : TypeId) : w.ownsRow B e 1 (.slice none 0 0) 0 (([] : List UInt8).map vb) := World.ownsRow_nil w B e 1

/-- One byte more. -/
theorem own_snoc {w : World} {B : Nat} {e : TypeId} {v : Value} {n : Nat} {l : List UInt8} {x : Value} {c : UInt8} (h : w.ownsRow B e 1 v (n + 1) (l.map vb ++ [x])) (hx : x = vb c) : w.ownsRow B e 1 v (n + 1) ((l ++ [c]).map vb) := by
  subst hx; simpa using h
theorem own_len {w : World} {B : Nat} {e : TypeId} {v : Value} {n : Nat} {l : List UInt8} (h : w.ownsRow B e 1 v n (l.map vb)) : l.length = n := by have := h.1; simpa using this
theorem own_ge {w : World} {B : Nat} {e : TypeId} {v : Value} {n : Nat} {xs : List Value} (h : w.ownsRow B e 1 v n xs) : ∀ g, v.ownBlock = some g → B ≤ g := fun g hg => (h.lt g hg).1

theorem one_new (w : World) (x : Value) (t : TypeId) : ∀ j u, [x][j]? = some u → (w.alloc (.cells #[x] t)).cell? ((⟨w.heap.size, 0, none⟩ : Addr).add j) = some u := by
  intro j u hj
  match j, hj with
  | 0, hj =>
    simp at hj
    subst hj
    have : ((⟨w.heap.size, 0, none⟩ : Addr).add 0) = ⟨w.heap.size, 0, none⟩ := by simp [Addr.add]
    rw [this]
    exact (Blk.new w t #[x]).cell 0

/-- 'out = append(out, x)' of one byte, out the call's own: ONE goal is left. -/
theorem app_byte {P : Program} {w : World} {ops : Array Oper} {rest : List Oper} {o : Oper} {a : Act} {Q : Exit → Act → World → Prop} (hgd : o.guard = none) (s x : Operand) (t : TypeId)
    (ho : o.op = .call { callee := .builtin .append, args := #[s, x], argTypes := #[t, t] }) (B : Nat) (e : TypeId) (ht : P.underlying t = some (.slice e))
    (hinfo : (P.info? e).map (fun i => (i.zero, i.size, i.bytes)) = some (some (.int .u8 0), 1, 1)) (v : Value) (n : Nat) (l : List UInt8) (hs : a.eval s = v) (hown : w.ownsRow B e 1 v n (l.map vb)) (c : UInt8) (X : Int) (hX : X = (c.toNat : Int)) (cp : Nat)
    (hx : a.eval x = .slice (some ⟨w.heap.size, 0, none⟩) 1 cp) (hn : n ≤ 100000000000) (hB : B ≤ w.heap.size)
    (h : ∀ v' w', w'.ownsRow B e 1 v' (n + 1) ((l ++ [c]).map vb) → Below B w w' → w.grownBy w' v.ownBlock → wpList P ops Q rest (a.put o.dst v') w') : wpList P ops Q (o :: rest) a (w.alloc (.cells #[.int .u8 X] e)) := by
  obtain ⟨i0, hi, hz0, hz1, hz2⟩ := info_parts hinfo
  refine wpList_append_own _ hgd s x t ho B e i0 (.int .u8 0) 1 1 ht hi hz0 hz1 hz2 rfl (by decide) v n (l.map vb) hs (hown.alloc _) ⟨w.heap.size, 0, none⟩ 1 cp [.int .u8 X] hx rfl (one_new w _ e) ?_ ?_ (by omega) ?_ ?_
  · intro u hu; simp at hu; subst hu; rfl
  · unfold maxLen; omega
  · have := World.size_alloc w (.cells #[.int .u8 X] e); omega
  · intro v' w' hown' hg _
    have hg2 : w.grownBy w' v.ownBlock := grown_trans (World.grownBy_alloc w _ _) hg
    exact h v' w' (own_snoc hown' (by rw [hX]; rfl)) (below_of_grown hg2 hB (fun g hg => (hown.lt g hg).1)) hg2

def str (l : List UInt8) : ByteArray := ⟨l.toArray⟩
theorem str_size (l : List UInt8) : (str l).size = l.length := by simp [str, ByteArray.size]
theorem str_list (l : List UInt8) : (str l).data.toList = l := by simp [str]
theorem str_self (s : ByteArray) : str s.data.toList = s := by simp [str]
theorem run_one {P : Program} {w : World} {e src dst : TypeId} (hs : P.underlying src = some (.slice e)) (he : P.underlying e = some (.int .u8)) (hd : P.underlying dst = some .string) {X : Int} {c : UInt8} (hX : X = (c.toNat : Int)) :
    (convert src dst (.slice (some ⟨w.heap.size, 0, none⟩) 1 1)).run P (w.alloc (.cells #[.int .u8 X] e)) = .ok (.string (str [c])) (w.alloc (.cells #[.int .u8 X] e)) := by
  refine run_convert_bytes_back (l := [c]) _ src dst e ⟨w.heap.size, 0, none⟩ 1 hs he hd ?_
  intro j hj
  refine one_new w _ e j _ ?_
  have : j = 0 := by simpa using hj
  subst this
  simp [hX]
theorem str_append (a b : List UInt8) : str a ++ str b = str (a ++ b) := by
  apply ByteArray.ext
  simp [str]

/-- 'make([]byte, 0, c)': ONE goal is left. -/
theorem make_bytes0 {P : Program} {w : World} {ops : Array Oper} {rest : List Oper} {o : Oper} {a : Act} {Q : Exit → Act → World → Prop} (hg : o.guard = none) (l c : Operand) (t : TypeId) (hop : o.op = Op.makeSlice t l c)
    (B : Nat) (e : TypeId) (ht : P.underlying t = some (.slice e)) (hinfo : (P.info? e).map (fun i => (i.zero, i.size, i.bytes)) = some (some (.int .u8 0), 1, 1)) (kl kc : IntKind) (C : Int) (n : Nat)
    (hl : a.eval l = .int kl 0) (hc : a.eval c = .int kc C) (hC : C = (n : Int)) (hn : n ≤ 100000000000) (hB : B ≤ w.heap.size)
    (hK : ∀ v w', v = .slice (some ⟨w.heap.size, 0, none⟩) 0 n → w'.ownsRow B e 1 v 0 (([] : List UInt8).map vb) → Below B w w' → w.grownBy w' none → wpList P ops Q rest (a.put o.dst v) w') : wpList P ops Q (o :: rest) a w := by
  obtain ⟨i0, hi, hz0, hz1, hz2⟩ := info_parts hinfo
  refine wpList_make_own w hg l c t hop B e i0 (.int .u8 0) 1 ht hi hz0 hz1 kl kc C n hl hc hC (by rw [hz2]; omega) (by unfold maxLen; omega) hB ?_
  intro w' hown hg'
  exact hK _ w' rfl hown (below_of_grown hg' hB (by simp)) hg'
/-- 'make([]byte, n)': ONE goal is left. -/
theorem make_bytes {P : Program} {w : World} {ops : Array Oper} {rest : List Oper} {o : Oper} {a : Act} {Q : Exit → Act → World → Prop} (hg : o.guard = none) (l c : Operand) (t : TypeId) (hop : o.op = Op.makeSlice t l c)
    (B : Nat) (e : TypeId) (ht : P.underlying t = some (.slice e)) (hinfo : (P.info? e).map (fun i => (i.zero, i.size, i.bytes)) = some (some (.int .u8 0), 1, 1)) (kl kc : IntKind) (L C : Int) (n : Nat)
    (hl : a.eval l = .int kl L) (hc : a.eval c = .int kc C) (hL : L = (n : Int)) (hC : C = (n : Int)) (hn : n ≤ 100000000000) (hB : B ≤ w.heap.size)
    (hK : ∀ w', w'.ownsRow B e 1 (.slice (some ⟨w.heap.size, 0, none⟩) n n) n ((List.replicate n (0 : UInt8)).map vb) → Below B w w' → w.grownBy w' none → wpList P ops Q rest (a.put o.dst (.slice (some ⟨w.heap.size, 0, none⟩) n n)) w') : wpList P ops Q (o :: rest) a w := by
  obtain ⟨i0, hi, hz0, hz1, hz2⟩ := info_parts hinfo
  refine wpList_make_full w hg l c t hop B e i0 (.int .u8 0) 1 ht hi hz0 hz1 kl kc L C n hl hc hL hC (by rw [hz2]; omega) (by unfold maxLen; omega) hB ?_
  intro w' hown hg'
  have e1 : (madeCells (Value.int .u8 0).cells (n * 1)).toList = (List.replicate n (0 : UInt8)).map vb := by
    rw [Nat.mul_one]
    refine (toList_madeCells_one (.int .u8 0) n).trans ?_
    simp [vb]
  rw [e1] at hown
  exact hK w' hown (below_of_grown hg' hB (by simp)) hg'
/-- 'out[k] = c', the first k bytes being done. -/
theorem own_store {w : World} {B : Nat} {e : TypeId} {G n k : Nat} {done : List UInt8} (h : w.ownsRow B e 1 (.slice (some ⟨G, 0, none⟩) n n) n ((done ++ List.replicate (n - k) (0 : UInt8)).map vb)) (hd : done.length = k) (hk : k < n) (c : UInt8) (X : Int) (hX : X = (c.toNat : Int)) :
    (w.setCell ⟨G, k, none⟩ (.int .u8 X)).ownsRow B e 1 (.slice (some ⟨G, 0, none⟩) n n) n ((done ++ [c] ++ List.replicate (n - (k + 1)) (0 : UInt8)).map vb) ∧ w.grownBy (w.setCell ⟨G, k, none⟩ (.int .u8 X)) (some G) := by
  have h1 := h.stored k (.int .u8 X)
  refine ⟨?_, h1.2⟩
  have e1 : ((done ++ List.replicate (n - k) (0 : UInt8)).map vb).set k (.int .u8 X) = (done ++ [c] ++ List.replicate (n - (k + 1)) (0 : UInt8)).map vb := by
    rw [show n - k = (n - (k + 1)) + 1 from by omega, List.replicate_succ]
    simp only [List.map_append, List.map_cons, List.append_assoc, List.cons_append, List.nil_append]
    rw [List.set_append]
    simp [hd, hX, vb]
  rw [← e1]; exact h1.1
theorem own_cell {w : World} {B : Nat} {e : TypeId} {G n cap : Nat} {l : List UInt8} (h : w.ownsRow B e 1 (.slice (some ⟨G, 0, none⟩) n cap) n (l.map vb)) (k : Nat) (hk : k < n) : w.cell? ⟨G, k, none⟩ = some (.int .u8 ((l[k]?.getD 0).toNat : Int)) := by
  have hl := own_len h
  rw [h.cellAt k (by omega), List.getElem?_map, List.getElem?_eq_getElem (by omega)]
  simp [vb]
theorem own_below {w w' : World} {B : Nat} {e : TypeId} {v : Value} {n : Nat} {xs : List Value} (h : w.ownsRow B e 1 v n xs) (hb : Below w.heap.size w w') : w'.ownsRow B e 1 v n xs :=
  h.kept (grown_below none hb) (by cases hv : v.ownBlock <;> simp)

/-- 'out = append(out, s...)' of a string's bytes. -/
theorem app_str {P : Program} {w : World} {ops : Array Oper} {rest : List Oper} {o : Oper} {a : Act} {Q : Exit → Act → World → Prop} (hgd : o.guard = none) (sl x : Operand) (t u : TypeId)
    (ho : o.op = .call { callee := .builtin .append, args := #[sl, x], argTypes := #[t, u] }) (B : Nat) (e : TypeId) (ht : P.underlying t = some (.slice e)) (hu : P.underlying u = some .string)
    (hinfo : (P.info? e).map (fun i => (i.zero, i.size, i.bytes)) = some (some (.int .u8 0), 1, 1)) (v : Value) (n : Nat) (l : List UInt8) (hs : a.eval sl = v) (hown : w.ownsRow B e 1 v n (l.map vb)) (s : ByteArray) (hx : a.eval x = .string s)
    (hn : n + s.size ≤ 100000000000) (hB : B ≤ w.heap.size)
    (h : ∀ v' w', w'.ownsRow B e 1 v' (n + s.size) ((l ++ s.data.toList).map vb) → Below B w w' → w.grownBy w' v.ownBlock → wpList P ops Q rest (a.put o.dst v') w') : wpList P ops Q (o :: rest) a w := by
  obtain ⟨i0, hi, hz0, hz1, hz2⟩ := info_parts hinfo
  refine Lib.wpList_append_own_string _ hgd sl x t u ho B e i0 ht hu hi hz0 hz1 hz2 v n (l.map vb) hs hown s hx (by unfold maxLen; omega) (by omega) hB ?_
  intro v' w' hown' hg _
  refine h v' w' ?_ (below_of_grown hg hB (fun g hg => (hown.lt g hg).1)) hg
  rw [List.map_append]; exact hown'
theorem two_new (w : World) (x y : Value) (t : TypeId) : ∀ j u, [x, y][j]? = some u → (w.alloc (.cells #[x, y] t)).cell? ((⟨w.heap.size, 0, none⟩ : Addr).add j) = some u := by
  intro j u hj
  match j, hj with
  | 0, hj =>
    simp at hj
    subst hj
    have : ((⟨w.heap.size, 0, none⟩ : Addr).add 0) = ⟨w.heap.size, 0, none⟩ := by simp [Addr.add]
    rw [this]
    exact (Blk.new w t #[x, y]).cell 0
  | 1, hj =>
    simp at hj
    subst hj
    have : ((⟨w.heap.size, 0, none⟩ : Addr).add 1) = ⟨w.heap.size, 1, none⟩ := by simp [Addr.add]
    rw [this]
    exact (Blk.new w t #[x, y]).cell 1
/-- 'out = append(out, x, y)' of two bytes. -/
theorem app_two {P : Program} {w : World} {ops : Array Oper} {rest : List Oper} {o : Oper} {a : Act} {Q : Exit → Act → World → Prop} (hgd : o.guard = none) (s x : Operand) (t : TypeId)
    (ho : o.op = .call { callee := .builtin .append, args := #[s, x], argTypes := #[t, t] }) (B : Nat) (e : TypeId) (ht : P.underlying t = some (.slice e))
    (hinfo : (P.info? e).map (fun i => (i.zero, i.size, i.bytes)) = some (some (.int .u8 0), 1, 1)) (v : Value) (n : Nat) (l : List UInt8) (hs : a.eval s = v) (hown : w.ownsRow B e 1 v n (l.map vb)) (c d : UInt8) (X Y : Int) (hX : X = (c.toNat : Int)) (hY : Y = (d.toNat : Int)) (cp : Nat)
    (hx : a.eval x = .slice (some ⟨w.heap.size, 0, none⟩) 2 cp) (hn : n ≤ 100000000000) (hB : B ≤ w.heap.size)
    (h : ∀ v' w', w'.ownsRow B e 1 v' (n + 2) ((l ++ [c, d]).map vb) → Below B w w' → w.grownBy w' v.ownBlock → wpList P ops Q rest (a.put o.dst v') w') : wpList P ops Q (o :: rest) a (w.alloc (.cells #[.int .u8 X, .int .u8 Y] e)) := by
  obtain ⟨i0, hi, hz0, hz1, hz2⟩ := info_parts hinfo
  refine wpList_append_own _ hgd s x t ho B e i0 (.int .u8 0) 1 1 ht hi hz0 hz1 hz2 rfl (by decide) v n (l.map vb) hs (hown.alloc _) ⟨w.heap.size, 0, none⟩ 2 cp [.int .u8 X, .int .u8 Y] hx rfl (two_new w _ _ e) ?_ ?_ (by omega) ?_ ?_
  · intro u hu; simp at hu; rcases hu with rfl | rfl <;> rfl
  · unfold maxLen; omega
  · have := World.size_alloc w (.cells #[.int .u8 X, .int .u8 Y] e); omega
  · intro v' w' hown' hg _
    have hg2 : w.grownBy w' v.ownBlock := grown_trans (World.grownBy_alloc w _ _) hg
    refine h v' w' ?_ (below_of_grown hg2 hB (fun g hg => (hown.lt g hg).1)) hg2
    rw [List.map_append]
    have e1 : [Value.int .u8 X, .int .u8 Y] = [c, d].map vb := by simp [vb, hX, hY]
    rw [← e1]; exact hown'
end Go.Proofs.Ytoiifopjipfjhaa
