/- Sets of texts in a map; shared words: mathematics; what the model looks up. No condition. -/
import Derived.Test.YtgaihfmopenfeaaOb
import Derived.Maps.Own
import Derived.Maps.OwnSet
import Derived.Maps.Views
import Derived.Maps.Keyed
namespace Go.Proofs.Ytgaihfmopenfeaa
open Go.ChangeShapes Go.WideShapes Go.ChangeAt Go.RowKit Go.Joins
set_option linter.unusedVariables false
set_option linter.unusedSimpArgs false

def rT (v : Value) : Option (DataW Value × List MemPlace) := some (.held v, [])
theorem str_kd : Maps.Keyed Try.prog 9 := Maps.string_keyed Try.underlying9
theorem kyT {s : ByteArray} (h : s.size ≤ maxLen) : keyOf Try.prog 9 (.string s) = some (.string s.data.toList) := WideMaps.keyOf_string_mk Try.underlying9 h
theorem lit_txt {s s' : ByteArray} (h : s ≠ s') : Lit.string s.data.toList ≠ Lit.string s'.data.toList := by
  intro e
  injection e with e
  exact h (by cases s; cases s'; congr 1; exact Array.toList_inj.1 e)
theorem zero_bool (w : World) : (zeroValue 4).run Try.prog w = .ok (.bool false) w := by kernel_rfl

/-- block bm is a set of texts, at most n of them: those of which Q is true -/
def SetS (w : World) (bm n : Nat) (Q : ByteArray → Bool) : Prop := ∃ D : DataW Value, w.ownsMap Try.prog 9 rT bm n D ∧ Maps.IsMap D ∧ ∀ s : ByteArray, s.size ≤ maxLen → D.atKey (.string s.data.toList) (.held (.bool false)) = .held (.bool (Q s))
theorem SetS.new (w : World) : SetS (w.alloc (.map #[] 0)) w.heap.size 0 (fun _ => false) := ⟨.map [], World.ownsMap_made w _ _ _, Maps.isMap_empty, fun _ _ => rfl⟩
theorem SetS.kept {w w' : World} {row : Option Nat} {bm n : Nat} {Q : ByteArray → Bool} (h : SetS w bm n Q) (hg : w.grownBy w' row) (hne : some bm ≠ row) : SetS w' bm n Q := by
  obtain ⟨D, ho, h2⟩ := h
  exact ⟨D, ho.kept hg hne, h2⟩
theorem SetS.lt {w : World} {bm n : Nat} {Q : ByteArray → Bool} (h : SetS w bm n Q) : bm < w.heap.size := by
  obtain ⟨D, ho, _⟩ := h; exact ho.lt
theorem SetS.on {w w' : World} {bm n : Nat} {Q : ByteArray → Bool} (h : SetS w bm n Q) (hb : Below w.heap.size w w') : SetS w' bm n Q := h.kept (grown_below none hb) (by simp)
theorem SetS.same {w : World} {bm n : Nat} {Q Q' : ByteArray → Bool} (h : SetS w bm n Q) (e : ∀ s, Q' s = Q s) : SetS w bm n Q' := by
  have : Q' = Q := funext e
  rw [this]; exact h
theorem SetS.look {w : World} {bm n : Nat} {Q : ByteArray → Bool} (h : SetS w bm n Q) {s : ByteArray} (hs : s.size ≤ maxLen) : (Instr.lookup 50 (.map (some bm)) (.string s) false).run Try.prog w = .ok (.bool (Q s)) w := by
  obtain ⟨D, ho, hi, hat⟩ := h
  obtain ⟨v, ps, hrun, hv⟩ := ho.lookup str_kd Try.underlying50 (zero_bool w) (show rT (.bool false) = some (.held (.bool false), []) from rfl) (kyT hs)
  rw [hat s hs] at hv
  have hv2 : v = .bool (Q s) := by simp [rT] at hv; exact hv.1
  rw [← hv2]
  exact hrun
theorem SetS.store {w : World} {bm n : Nat} {Q : ByteArray → Bool} (h : SetS w bm n Q) {s : ByteArray} (hs : s.size ≤ maxLen) (hn : n ≤ 10000000) : ∃ w', (Instr.mapUpdate 50 (.map (some bm)) (.string s) (.bool true)).run Try.prog w = .ok () w' ∧ SetS w' bm (n + 1) (fun x => decide (x = s) || Q x) ∧ w.grownBy w' (some bm) := by
  obtain ⟨D, ho, hi, hat⟩ := h
  obtain ⟨w', hrun, ho', hg⟩ := ho.update str_kd Try.underlying50 (by unfold maxLen; omega) (kyT hs) (show rT (.bool true) = some (.held (.bool true), []) from rfl)
  refine ⟨w', hrun, ⟨D.put (.string s.data.toList) (.held (.bool true)), ho', hi.put _ _, fun x hx => ?_⟩, hg⟩
  by_cases he : x = s
  · subst he
    simp only [decide_true, Bool.true_or]
    exact Maps.atKey_put_same hi (str_kd.key (kyT hs)) _ _
  · rw [Maps.atKey_put_other (lit_txt he), hat x hx]
    simp [he]
theorem SetS.del {w : World} {bm n : Nat} {Q : ByteArray → Bool} (h : SetS w bm n Q) {s : ByteArray} (hs : s.size ≤ maxLen) (ty : TypeId) : ∃ w', (Builtin.delete_ #[ 50, 9 ] ty #[.map (some bm), .string s]).run Try.prog w = .ok (.tuple #[]) w' ∧ SetS w' bm n (fun x => !decide (x = s) && Q x) ∧ w.grownBy w' (some bm) := by
  obtain ⟨D, ho, hi, hat⟩ := h
  obtain ⟨w', hrun, ho', hg⟩ := ho.drop str_kd Try.underlying50 (kyT hs) ty
  refine ⟨w', hrun, ⟨D.del (.string s.data.toList), ho', hi.del _, fun x hx => ?_⟩, hg.grown⟩
  by_cases he : x = s
  · subst he
    simp only [decide_true, Bool.not_true, Bool.false_and]
    exact Maps.atKey_del_same _
  · rw [Maps.atKey_del_other (lit_txt he), hat x hx]
    simp [he]

instance memTxt (s : ByteArray) (l : List ByteArray) : Decidable (s ∈ l) := decidable_of_iff (∃ t, t ∈ l ∧ t = s) ⟨fun ⟨t, h, e⟩ => e ▸ h, fun h => ⟨s, h, rfl⟩⟩
/-- is a text shared, and not among those that were taken? -/
def shQ (y out : List ByteArray) (s : ByteArray) : Bool := decide (s ∈ y) && !decide (s ∈ out)
/-- the texts of one list that are in another, each once -/
def shS (x y : List ByteArray) : List ByteArray := x.foldl (fun out s => if shQ y out s = true then out ++ [s] else out) []
theorem shS_take (x y : List ByteArray) (k : Nat) (h : k < x.length) : shS (x.take (k + 1)) y = if shQ y (shS (x.take k) y) x[k] = true then shS (x.take k) y ++ [x[k]] else shS (x.take k) y := by
  rw [shS, List.take_succ_eq_append_getElem h, List.foldl_append]; rfl
theorem shS_yes {x y : List ByteArray} {k : Nat} {s : ByteArray} (h : k < x.length) (hs : s = x[k]) (hq : shQ y (shS (x.take k) y) s = true) : shS (x.take (k + 1)) y = shS (x.take k) y ++ [s] := by
  subst hs; rw [shS_take x y k h, if_pos hq]
theorem shS_no {x y : List ByteArray} {k : Nat} {s : ByteArray} (h : k < x.length) (hs : s = x[k]) (hq : shQ y (shS (x.take k) y) s = false) : shS (x.take (k + 1)) y = shS (x.take k) y := by
  subst hs; rw [shS_take x y k h, if_neg (by rw [hq]; simp)]
theorem shS_len (x y : List ByteArray) (k : Nat) (h : k ≤ x.length) : (shS (x.take k) y).length ≤ k := by
  induction k with
  | zero => simp [shS]
  | succ k ih =>
    have := ih (by omega)
    rw [shS_take x y k (by omega)]
    split
    · rw [List.length_append]; simp; omega
    · omega
theorem shQ_next (y out : List ByteArray) (s : ByteArray) (t : ByteArray) : shQ y (out ++ [s]) t = (!decide (t = s) && shQ y out t) := by
  unfold shQ
  by_cases h1 : t ∈ y <;> by_cases h2 : t ∈ out <;> by_cases h3 : t = s <;> simp [h1, h2, h3]
theorem shQ_nil (y : List ByteArray) (t : ByteArray) : shQ y [] t = decide (t ∈ y) := by simp [shQ]
theorem mem_take (y : List ByteArray) (k : Nat) (h : k < y.length) (t : ByteArray) : decide (t ∈ y.take (k + 1)) = (decide (t = y[k]) || decide (t ∈ y.take k)) := by
  have m : t ∈ y.take (k + 1) ↔ t ∈ y.take k ∨ t = y[k] := by rw [List.take_succ_eq_append_getElem h, List.mem_append, List.mem_singleton]
  rw [Bool.eq_iff_iff]
  simp only [decide_eq_true_eq, Bool.or_eq_true]
  exact m.trans Or.comm
theorem kwR_size (k : Kn) : ∀ s ∈ kwR k, s.size ≤ 100000 := by
  intro s hs
  by_cases h : k.Ok
  · rw [kwR_yes h, kwS] at hs
    simp only [List.mem_map, List.mem_range] at hs
    obtain ⟨i, hi, rfl⟩ := hs
    rw [str_size]
    have h2 := word_len k.c k.ps h.pairs (k.c + 2 + (i : Int)) (kw_has i hi)
    have h3 := (kn_len h).1
    have h4 : (k.word (k.c + 2 + (i : Int))).length ≤ k.ps.length + 1 := h2
    omega
  · rw [kwR_no h] at hs; simp at hs

theorem bytes_neO {a b : ByteArray} (h : ¬ a = b) : (a.toList == b.toList) = false := by
  rw [ByteArray.toList_eq, ByteArray.toList_eq, beq_eq_false_iff_ne]
  intro e
  exact h (ByteArray.ext (Array.toList_inj.1 e))

set_option maxRecDepth 100000 in
theorem c_l4Has (A : Option Addr) (cap : Nat) (l : List ByteArray) (L : Nat) (s : ByteArray) (w : World) (h : StrsAt w L A cap l) (hn : l.length ≤ 1048576) : Calls Try.prog 22 #[.slice A l.length cap, .string s] w (Same (.bool (decide (s ∈ l))) w) := by
  obtain ⟨N, hN⟩ : ∃ N, N = l.length := ⟨_, rfl⟩
  have HN := hid hN
  have HH := hid h
  rw [← hN] at hn ⊢
  clear hN h
  go_enter Try.func22, Try.ntmps22
  go_wp2_with fail
  go_loop [5] (fun i => ∃ k : Nat, k ≤ N ∧ i = .int .i64 k ∧ Hid (∀ t ∈ l.take k, t ≠ s)) (fun i => N - (intOf i).toNat)
  case atStart => exact ⟨0, Nat.zero_le _, rfl, hid (by simp)⟩
  case round =>
    obtain ⟨k, hk, rfl, HQ⟩ := hrel
    by_cases hlt : k < N
    · have hlt2 : k < l.length := by have := HN.out; omega
      obtain ⟨b, off, rfl, hb, hc0⟩ := txt_at HH.out k hlt2
      obtain ⟨p, hp⟩ : ∃ p, p = l[k] := ⟨_, rfl⟩
      rw [← hp] at hc0
      have HP := hid hp
      clear hp
      by_cases he : p = s
      · have HM := hid (show decide (s ∈ l) = true by
          rw [← he, HP.out]; simp)
        rw [HM.out]
        subst he
        go_wp2
        go_ret
        exact ⟨rfl, rfl⟩
      · have hne : (p.toList == s.toList) = false := bytes_neO he
        have HQ2 := hid (show ∀ t ∈ l.take (k + 1), t ≠ s by
          rw [List.take_succ_eq_append_getElem hlt2]
          intro t ht
          rcases List.mem_append.1 ht with ht | ht
          · exact HQ.out t ht
          · simp at ht; rw [ht, ← HP.out]; exact he)
        clear he
        go_wp2
        go_round
        case rel => exact ⟨k + 1, by omega, by go_num, HQ2⟩
        case measure => simp [intOf]; omega
    · have HM := hid (show decide (s ∈ l) = false by
        have h9 := HQ.out
        rw [List.take_of_length_le (by have := HN.out; omega)] at h9
        simp; intro hm; exact h9 s hm rfl)
      go_wp2
      go_ret
      exact ⟨by rw [HM.out]; rfl, rfl⟩
end Go.Proofs.Ytgaihfmopenfeaa
