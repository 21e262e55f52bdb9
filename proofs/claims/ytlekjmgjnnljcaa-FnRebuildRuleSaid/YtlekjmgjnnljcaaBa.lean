/- What every law's text here uses: the argument 'code' as cells that can be read; an integer's bounds; a block that is known whole. No condition. Small facts on the bytes of a string. No condition. Bytes that the call itself has gathered: a slice that owns them, read back as a string. Contracts of the functions on settings: both programs' SettingValid and what it calls. No condition but that the numbers are int's. The law's own conversion of a setting. No condition. Plain mathematics: bits and numbers, bytes and bits, hexadecimal digits. It imports nothing. No condition. Contracts of ClearCode, EndCode, LastCode in both programs. No condition. Contracts of BitsNeeded in both programs. No condition. -/
import Derived.WalkKit
import Derived.ProofKit
import Derived.OpenShut
import Derived.ShutString
import Derived.ChangeOld
import Derived.Below
import Derived.Lib.SmallJoins
import Derived.Laws.OwnMore
import Derived.Laws.Rows
import Derived.Deep.Draws
import Derived.Deep.RegionWith
import Derived.Deep.QuietTactic
import Derived.BigQuiet
import Derived.Lib.Strings
import Derived.Laws.DeepStrings4
import Derived.Laws.IdiomStrings
import Derived.Laws.CopyOwn
import Derived.Lib.AppendStr
import Derived.Test.YtlekjmgjnnljcaaChecked
import Derived.Test.YtlekjmgjnnljcaaShelf
import Derived.Shelf.Small.Bits
namespace Go.Proofs.Ytlekjmgjnnljcaa
section
open Go.ChangeShapes Go.WideShapes Go.ChangeAt Go.RowKit Go.Joins
set_option linter.unusedVariables false

theorem wf_bounds {n : Int} (h : (Lit.int .i64 n).wf = true) : -9223372036854775808 ≤ n ∧ n ≤ 9223372036854775807 := by
  simpa [Lit.wf, IntKind.min, IntKind.max, IntKind.signed, IntKind.bits] using h
theorem wf_byte {n : Int} (h : (Lit.int .u8 n).wf = true) : 0 ≤ n ∧ n ≤ 255 := by
  simpa [Lit.wf, IntKind.min, IntKind.max, IntKind.signed, IntKind.bits] using h

/-- The slice value '.slice A n cap' has n bytes, in cells below block L. -/
def CodeAt (w : World) (L : Nat) (A : Option Addr) (n cap : Nat) : Prop :=
  n ≤ cap ∧ cap ≤ maxLen ∧ (0 < n → ∃ b off, A = some ⟨b, off, none⟩ ∧ b < L ∧ ∀ i, i < n → ∃ v : Int, w.cell? ⟨b, off + i, none⟩ = some (.int .u8 v) ∧ 0 ≤ v ∧ v ≤ 255)

theorem codeAt_of {H : Type} {enc : TypeId × Value → H} {P : Program} {w : World} {base : Nat} {spare : Nat → Bool} {held : Bool} {t e : TypeId} {A : Option Addr} {n cap : Nat} {d : DataW H} {ps : List MemPlace}
    (ht : P.underlying t = some (.slice e)) (he : P.underlying e = some (.int .u8)) (hc : P.cellsOf e = 1)
    (h : DataW.Trod enc P w base spare held t (.slice A n cap) d ps) : CodeAt w w.heap.size A n cap := by
  obtain ⟨fuel, hf⟩ := h
  rcases open_ints ht he hc hf with ⟨hcs, _⟩ | ⟨a, l, c, zs, hcs, _, hl, hm, hz, _, hcell, hwz⟩
  · simp [Value.cells] at hcs
    obtain ⟨rfl, rfl, rfl⟩ := hcs
    exact ⟨Nat.le_refl _, by simp [maxLen], fun h => absurd h (by omega)⟩
  · simp [Value.cells] at hcs
    obtain ⟨rfl, rfl, rfl⟩ := hcs
    refine ⟨hl, hm, fun hn => ?_⟩
    have hzl : n ≤ zs.length := by rw [hz]; split <;> omega
    obtain ⟨b, off, spot⟩ := a
    have hc0 := hcell 0 (by omega)
    have hspot : spot = none := by simpa [Addr.add] using World.cell?_spot hc0
    subst hspot
    refine ⟨b, off, rfl, ?_, fun i hi => ?_⟩
    · have := World.block_lt_of_cell? _ _ hc0
      simpa [Addr.add] using this
    · have hci := hcell i (by omega)
      have hmem : zs.getD i 0 ∈ zs := by
        rw [List.getD_eq_getElem?_getD, List.getElem?_eq_getElem (by omega)]; simp
      have hb := wf_byte (hwz _ hmem)
      refine ⟨zs.getD i 0, ?_, hb.1, hb.2⟩
      rw [← hci]
      unfold Addr.add
      split <;> simp_all

/-- Block g is just the cells cs of element type t, none frozen. -/
def Blk (w : World) (g : Nat) (t : TypeId) (cs : Array Value) : Prop := w.heap[g]? = some (.cells cs t (0, 0))
section
variable {w w' : World} {g : Nat} {t : TypeId} {cs : Array Value}

theorem Blk.lt (h : Blk w g t cs) : g < w.heap.size := by
  rcases Nat.lt_or_ge g w.heap.size with hlt | hge
  · exact hlt
  · unfold Blk at h; rw [Array.getElem?_eq_none hge] at h; cases h
theorem Blk.cell (h : Blk w g t cs) (i : Nat) : w.cell? ⟨g, i, none⟩ = cs[i]? := cell_of_row w g i cs t (0, 0) h
theorem Blk.frozen (h : Blk w g t cs) (i : Nat) : w.frozen? ⟨g, i, none⟩ = false := by
  unfold Blk at h
  simp [World.frozen?, h]
theorem Blk.new (w : World) (t : TypeId) (cs : Array Value) : Blk (w.alloc (.cells cs t)) w.heap.size t cs := heap_alloc_new w _
theorem Blk.drew (h : Blk w g t cs) : Blk w.drew g t cs := h
theorem Blk.drewN (h : Blk w g t cs) (n : Nat) : Blk (w.drewN n) g t cs := h
theorem Blk.alloc (h : Blk w g t cs) (o : Obj) : Blk (w.alloc o) g t cs := (Below.heap_alloc w o g h.lt).trans h
theorem Blk.set_ (h : Blk w g t cs) (i : Nat) (u : Value) : Blk (w.setCell ⟨g, i, none⟩ u) g t (cs.setIfInBounds i u) := by
  unfold Blk at h ⊢
  simp [World.setCell, Array.getElem?_modify, h]
theorem Blk.below {B : Nat} (h : Blk w g t cs) (hb : Below B w w') (hg : g < B) : Blk w' g t cs := (hb.block g hg).trans h
theorem Blk.grown {row : Option Nat} (h : Blk w g t cs) (hb : w.grownBy w' row) (hg : some g ≠ row) : Blk w' g t cs := (hb.block g h.lt hg).trans h
end

theorem Blk.cells3 {w : World} {g : Nat} {t : TypeId} {a b c : Value} (h : Blk w g t #[a, b, c]) : w.cell? ⟨g, 0, none⟩ = some a ∧ w.cell? ⟨g, 1, none⟩ = some b ∧ w.cell? ⟨g, 2, none⟩ = some c := ⟨h.cell 0, h.cell 1, h.cell 2⟩
theorem Blk.cells2 {w : World} {g : Nat} {t : TypeId} {a b : Value} (h : Blk w g t #[a, b]) : w.cell? ⟨g, 0, none⟩ = some a ∧ w.cell? ⟨g, 1, none⟩ = some b := ⟨h.cell 0, h.cell 1⟩
theorem Blk.on {w w' : World} {g : Nat} {t : TypeId} {cs : Array Value} (h : Blk w g t cs) (hb : Below w.heap.size w w') : Blk w' g t cs := h.below hb h.lt

theorem CodeAt.keep {w w' : World} {L n cap : Nat} {A : Option Addr} (h : CodeAt w L A n cap) (hk : ∀ k, k < L → w'.heap[k]? = w.heap[k]?) : CodeAt w' L A n cap :=
  ⟨h.1, h.2.1, fun hn => by
    obtain ⟨b, off, e, hb, hc⟩ := h.2.2 hn
    refine ⟨b, off, e, hb, fun i hi => ?_⟩
    obtain ⟨v, hv, h1⟩ := hc i hi
    exact ⟨v, (World.cell?_of_block (a := ⟨b, off + i, none⟩) (hk b hb)).trans hv, h1⟩⟩

/-! ### 'grownBy': the world has new blocks, and writes to one block alone -/
theorem grown_refl (w : World) (row : Option Nat) : w.grownBy w row := ⟨rfl, rfl, rfl, Nat.le_refl _, fun _ _ _ => rfl⟩
theorem grown_trans {a b c : World} {row : Option Nat} (h : a.grownBy b row) (k : b.grownBy c row) : a.grownBy c row :=
  ⟨k.os.trans h.os, k.tape.trans h.tape, k.output.trans h.output, Nat.le_trans h.size k.size, fun i hi hr => (k.block i (Nat.lt_of_lt_of_le hi h.size) hr).trans (h.block i hi hr)⟩
theorem grown_below {a b : World} (row : Option Nat) (h : Below a.heap.size a b) : a.grownBy b row := ⟨h.os, h.tape, h.output, h.size, fun k hk _ => h.block k hk⟩
theorem grown_drew {a b : World} {row : Option Nat} (h : a.grownBy b row) : a.grownBy b.drew row := ⟨h.os, h.tape, h.output, h.size, h.block⟩
theorem grown_drewN {a b : World} {row : Option Nat} (h : a.grownBy b row) (n : Nat) : a.grownBy (b.drewN n) row := ⟨h.os, h.tape, h.output, h.size, h.block⟩
theorem grown_alloc {a b : World} {row : Option Nat} (h : a.grownBy b row) (o : Obj) : a.grownBy (b.alloc o) row := grown_trans h (World.grownBy_alloc b o row)
theorem grown_set {a b : World} {g : Nat} (h : a.grownBy b (some g)) (i : Nat) (u : Value) : a.grownBy (b.setCell ⟨g, i, none⟩ u) (some g) :=
  grown_trans h ⟨rfl, rfl, rfl, by show b.heap.size ≤ (b.setCell ⟨g, i, none⟩ u).heap.size; simp [World.setCell], fun k hk hr => Below.heap_setCell b _ u k (fun e => hr (by rw [e]))⟩
theorem below_of_grown {a b : World} {B : Nat} {row : Option Nat} (h : a.grownBy b row) (hB : B ≤ a.heap.size) (hr : ∀ g, row = some g → B ≤ g) : Below B a b :=
  ⟨h.os, h.tape, h.output, h.size, fun k hk => h.block k (by omega) (fun e => by have := hr k e.symm; omega)⟩
theorem ne_yes {a b : Int} (h : a < b ∨ b < a) : (a != b) = true := by rw [bne_iff_ne]; omega
theorem ne_no {a b : Int} (h : a = b) : (a != b) = false := by simp [h]
theorem eq_yes {a b : Int} (h : a = b) : (a == b) = true := by simp [h]
theorem eq_no {a b : Int} (h : a < b ∨ b < a) : (a == b) = false := by rw [beq_eq_false_iff_ne]; omega
theorem vint {k : IntKind} {a b : Int} (h : a = b) : Value.int k a = Value.int k b := by rw [h]
theorem vstr {a b : ByteArray} (h : a = b) : Value.string a = Value.string b := by rw [h]
theorem hid {p : Prop} (h : p) : Hid p := h
theorem ret_bool {a b : Bool} (h : a = b) : Ending.returned (.bool a) = .returned (.bool b) := by rw [h]
theorem ret_int {k : IntKind} {a b : Int} (h : a = b) : Ending.returned (.int k a) = .returned (.int k b) := by rw [h]
theorem ret_str {a b : ByteArray} (h : a = b) : Ending.returned (.string a) = .returned (.string b) := by rw [h]

theorem bel_alloc {w0 w : World} (h : Below w0.heap.size w0 w) (o : Obj) : Below w0.heap.size w0 (w.alloc o) := h.alloc h.size o
theorem bel_drew {w0 w : World} (h : Below w0.heap.size w0 w) : Below w0.heap.size w0 w.drew := h.drew
theorem bel_drewN {w0 w : World} (h : Below w0.heap.size w0 w) (n : Nat) : Below w0.heap.size w0 (w.drewN n) := ⟨h.os, h.tape, h.output, h.size, h.block⟩
theorem bel_trans {w0 w w1 : World} (h : Below w0.heap.size w0 w) (hb : Below w.heap.size w w1) : Below w0.heap.size w0 w1 := h.trans (hb.mono h.size)
theorem bel_set {w0 w : World} (h : Below w0.heap.size w0 w) {p : Addr} (hp : w0.heap.size ≤ p.block) (u : Value) : Below w0.heap.size w0 (w.setCell p u) := h.setCell hp u
/-- 'Below', out of what stands in the context -/
theorem obB {P : Prop} (h : P := by (repeat (first | with_reducible (first | assumption | exact Below.refl _ _ | refine bel_alloc ?_ _ | refine bel_drew ?_ | refine bel_drewN ?_ _ | refine bel_set ?_ (by first | omega | (simp; done) | (simp; omega)) _ | refine bel_trans ?_ (by assumption)) | assumption | refine bel_trans ?_ (by assumption)))) : P := h
theorem bcell {W w1 : World} {B : Nat} (hb : Below B W w1) : (∀ b o, b < B → w1.cell? ⟨b, o, none⟩ = W.cell? ⟨b, o, none⟩) ∧ (∀ b o, b < B → w1.frozen? ⟨b, o, none⟩ = W.frozen? ⟨b, o, none⟩) :=
  ⟨fun b o h => hb.cell (p := ⟨b, o, none⟩) h, fun b o h => hb.frozen (p := ⟨b, o, none⟩) h⟩
end

section
open Go.ChangeShapes Go.WideShapes Go.ChangeAt Go.RowKit Go.Joins
set_option linter.unusedVariables false

theorem take_snoc (s : ByteArray) (k : Nat) (h : k < s.size) : s.data.toList.take (k + 1) = s.data.toList.take k ++ [s[k]] := by
  rw [List.take_succ_eq_append_getElem (by simpa using h)]; rfl

theorem all_snoc (s : ByteArray) (p : UInt8 → Bool) (k : Nat) (h : k < s.size) : (s.data.toList.take (k + 1)).all p = ((s.data.toList.take k).all p && p s[k]) := by
  rw [take_snoc s k h]; simp

theorem all_whole (s : ByteArray) (p : UInt8 → Bool) (k : Nat) (h : s.size ≤ k) : (s.data.toList.take k).all p = s.data.toList.all p := by
  rw [List.take_of_length_le (by simpa using h)]

theorem all_not (s : ByteArray) (p : UInt8 → Bool) (k : Nat) (h : k < s.size) (hp : p s[k] = false) : s.data.toList.all p = false := by
  have e : s[k] ∈ s.data.toList := by
    have : s[k] = s.data.toList[k]'(by simpa using h) := rfl
    rw [this]; exact List.getElem_mem _
  rw [List.all_eq_false]
  exact ⟨_, e, by simp [hp]⟩

theorem len_toList (s : ByteArray) : s.data.toList.length = s.size := by simp

theorem byte_le (s : ByteArray) (k : Nat) (h : k < s.size) : ((s[k]).toNat : Int) ≤ 255 := by have := (s[k]).toNat_lt; omega

/-- 's[a:b]' at numbers that are casts only behind a computation. -/
theorem slice_str {P : Program} {t : TypeId} (ht : P.underlying t = some .string) (s : ByteArray) (A B : Int) (a b : Nat) (ha : A = (a : Int)) (hb : B = (b : Int)) (hab : a ≤ b) (hbs : b ≤ s.size) (w : World) :
    (Instr.slice t (.string s) (some (.int .i64 A)) (some (.int .i64 B)) none).run P w = .ok (.string (s.extract a b)) w := by
  subst ha hb
  rw [run_slice_string_if w t s .i64 .i64 _ _ ht, if_pos (by omega), if_pos (by omega), Int.toNat_natCast, Int.toNat_natCast]
end

section
open Go.ChangeShapes Go.WideShapes Go.ChangeAt Go.RowKit Go.Joins
set_option linter.unusedVariables false

def vb (c : UInt8) : Value := .int .u8 (c.toNat : Int)

theorem run_str {P : Program} {w : World} {base : Nat} {e : TypeId} {n : Nat} {v : Value} {l : List UInt8} {src dst : TypeId} (hs : P.underlying src = some (.slice e)) (he : P.underlying e = some (.int .u8)) (hd : P.underlying dst = some .string)
    (hown : w.ownsRow base e 1 v n (l.map vb)) : (convert src dst v).run P w = .ok (.string ⟨l.toArray⟩) w := by
  obtain ⟨hl, h⟩ := hown
  simp only [List.length_map, Nat.mul_one] at hl
  rcases h with ⟨rfl, rfl⟩ | ⟨g, cap, cur, rfl, hb, hh, hnc, hcm, hsz, htk⟩
  · have : l = [] := List.length_eq_zero_iff.1 hl
    subst this
    rw [run_convert_bytes_string w src dst e none 0 0 hs he hd]
    simp [Conv.bytesToString]
    rfl
  · subst hl
    refine run_convert_bytes_back w src dst e ⟨g, 0, none⟩ cap l hs he hd ?_
    intro j hj
    have h2 : w.cell? ⟨g, j, none⟩ = cur[j]? := cell_of_row w g j cur e (0, 0) hh
    have h3 : ((⟨g, 0, none⟩ : Addr).add j) = ⟨g, j, none⟩ := by unfold Addr.add; split <;> simp_all
    rw [h3, h2]
    have h4 : (cur.toList.take (l.length * 1))[j]? = (l.map vb)[j]? := by rw [htk]
    rw [List.getElem?_take, if_pos (by omega)] at h4
    have h5 : cur[j]? = cur.toList[j]? := by simp
    rw [h5, h4, List.getElem?_map, List.getElem?_eq_getElem hj]
    rfl

theorem own_nil (w : World) (B : Nat) (e : TypeId) : w.ownsRow B e 1 (.slice none 0 0) 0 (([] : List UInt8).map vb) := World.ownsRow_nil w B e 1

/-- One byte more. -/
theorem own_snoc {w : World} {B : Nat} {e : TypeId} {v : Value} {n : Nat} {l : List UInt8} {x : Value} {c : UInt8} (h : w.ownsRow B e 1 v (n + 1) (l.map vb ++ [x])) (hx : x = vb c) : w.ownsRow B e 1 v (n + 1) ((l ++ [c]).map vb) := by
  subst hx; simpa using h
theorem own_len {w : World} {B : Nat} {e : TypeId} {v : Value} {n : Nat} {l : List UInt8} (h : w.ownsRow B e 1 v n (l.map vb)) : l.length = n := by have := h.1; simpa using this
theorem own_ge {w : World} {B : Nat} {e : TypeId} {v : Value} {n : Nat} {xs : List Value} (h : w.ownsRow B e 1 v n xs) : ∀ g, v.ownBlock = some g → B ≤ g := fun g hg => (h.lt g hg).1

theorem one_new (w : World) (x : Value) (t : TypeId) : ∀ j u, [x][j]? = some u → (w.alloc (.cells #[x] t)).cell? ((⟨w.heap.size, 0, none⟩ : Addr).add j) = some u := by
  intro j u hj
  match j, hj with
  | 0, hj =>
    simp at hj
    subst hj
    have : ((⟨w.heap.size, 0, none⟩ : Addr).add 0) = ⟨w.heap.size, 0, none⟩ := by simp [Addr.add]
    rw [this]
    exact (Blk.new w t #[x]).cell 0

/-- 'out = append(out, x)' of one byte, out the call's own: ONE goal is left. -/
theorem app_byte {P : Program} {w : World} {ops : Array Oper} {rest : List Oper} {o : Oper} {a : Act} {Q : Exit → Act → World → Prop} (hgd : o.guard = none) (s x : Operand) (t : TypeId)
    (ho : o.op = .call { callee := .builtin .append, args := #[s, x], argTypes := #[t, t] }) (B : Nat) (e : TypeId) (ht : P.underlying t = some (.slice e))
    (hinfo : (P.info? e).map (fun i => (i.zero, i.size, i.bytes)) = some (some (.int .u8 0), 1, 1)) (v : Value) (n : Nat) (l : List UInt8) (hs : a.eval s = v) (hown : w.ownsRow B e 1 v n (l.map vb)) (c : UInt8) (X : Int) (hX : X = (c.toNat : Int)) (cp : Nat)
    (hx : a.eval x = .slice (some ⟨w.heap.size, 0, none⟩) 1 cp) (hn : n ≤ 100000000000) (hB : B ≤ w.heap.size)
    (h : ∀ v' w', w'.ownsRow B e 1 v' (n + 1) ((l ++ [c]).map vb) → Below B w w' → w.grownBy w' v.ownBlock → wpList P ops Q rest (a.put o.dst v') w') : wpList P ops Q (o :: rest) a (w.alloc (.cells #[.int .u8 X] e)) := by
  obtain ⟨i0, hi, hz0, hz1, hz2⟩ := info_parts hinfo
  refine wpList_append_own _ hgd s x t ho B e i0 (.int .u8 0) 1 1 ht hi hz0 hz1 hz2 rfl (by decide) v n (l.map vb) hs (hown.alloc _) ⟨w.heap.size, 0, none⟩ 1 cp [.int .u8 X] hx rfl (one_new w _ e) ?_ ?_ (by omega) ?_ ?_
  · intro u hu; simp at hu; subst hu; rfl
  · unfold maxLen; omega
  · have := World.size_alloc w (.cells #[.int .u8 X] e); omega
  · intro v' w' hown' hg _
    have hg2 : w.grownBy w' v.ownBlock := grown_trans (World.grownBy_alloc w _ _) hg
    exact h v' w' (own_snoc hown' (by rw [hX]; rfl)) (below_of_grown hg2 hB (fun g hg => (hown.lt g hg).1)) hg2

def str (l : List UInt8) : ByteArray := ⟨l.toArray⟩
theorem str_size (l : List UInt8) : (str l).size = l.length := by simp [str, ByteArray.size]
theorem str_list (l : List UInt8) : (str l).data.toList = l := by simp [str]
theorem str_self (s : ByteArray) : str s.data.toList = s := by simp [str]
theorem run_one {P : Program} {w : World} {e src dst : TypeId} (hs : P.underlying src = some (.slice e)) (he : P.underlying e = some (.int .u8)) (hd : P.underlying dst = some .string) {X : Int} {c : UInt8} (hX : X = (c.toNat : Int)) :
    (convert src dst (.slice (some ⟨w.heap.size, 0, none⟩) 1 1)).run P (w.alloc (.cells #[.int .u8 X] e)) = .ok (.string (str [c])) (w.alloc (.cells #[.int .u8 X] e)) := by
  refine run_convert_bytes_back (l := [c]) _ src dst e ⟨w.heap.size, 0, none⟩ 1 hs he hd ?_
  intro j hj
  refine one_new w _ e j _ ?_
  have : j = 0 := by simpa using hj
  subst this
  simp [hX]
theorem str_append (a b : List UInt8) : str a ++ str b = str (a ++ b) := by
  apply ByteArray.ext
  simp [str]

/-- 'make([]byte, 0, c)': ONE goal is left. -/
theorem make_bytes0 {P : Program} {w : World} {ops : Array Oper} {rest : List Oper} {o : Oper} {a : Act} {Q : Exit → Act → World → Prop} (hg : o.guard = none) (l c : Operand) (t : TypeId) (hop : o.op = Op.makeSlice t l c)
    (B : Nat) (e : TypeId) (ht : P.underlying t = some (.slice e)) (hinfo : (P.info? e).map (fun i => (i.zero, i.size, i.bytes)) = some (some (.int .u8 0), 1, 1)) (kl kc : IntKind) (C : Int) (n : Nat)
    (hl : a.eval l = .int kl 0) (hc : a.eval c = .int kc C) (hC : C = (n : Int)) (hn : n ≤ 100000000000) (hB : B ≤ w.heap.size)
    (hK : ∀ v w', v = .slice (some ⟨w.heap.size, 0, none⟩) 0 n → w'.ownsRow B e 1 v 0 (([] : List UInt8).map vb) → Below B w w' → w.grownBy w' none → wpList P ops Q rest (a.put o.dst v) w') : wpList P ops Q (o :: rest) a w := by
  obtain ⟨i0, hi, hz0, hz1, hz2⟩ := info_parts hinfo
  refine wpList_make_own w hg l c t hop B e i0 (.int .u8 0) 1 ht hi hz0 hz1 kl kc C n hl hc hC (by rw [hz2]; omega) (by unfold maxLen; omega) hB ?_
  intro w' hown hg'
  exact hK _ w' rfl hown (below_of_grown hg' hB (by simp)) hg'
/-- 'make([]byte, n)': ONE goal is left. -/
theorem make_bytes {P : Program} {w : World} {ops : Array Oper} {rest : List Oper} {o : Oper} {a : Act} {Q : Exit → Act → World → Prop} (hg : o.guard = none) (l c : Operand) (t : TypeId) (hop : o.op = Op.makeSlice t l c)
    (B : Nat) (e : TypeId) (ht : P.underlying t = some (.slice e)) (hinfo : (P.info? e).map (fun i => (i.zero, i.size, i.bytes)) = some (some (.int .u8 0), 1, 1)) (kl kc : IntKind) (L C : Int) (n : Nat)
    (hl : a.eval l = .int kl L) (hc : a.eval c = .int kc C) (hL : L = (n : Int)) (hC : C = (n : Int)) (hn : n ≤ 100000000000) (hB : B ≤ w.heap.size)
    (hK : ∀ w', w'.ownsRow B e 1 (.slice (some ⟨w.heap.size, 0, none⟩) n n) n ((List.replicate n (0 : UInt8)).map vb) → Below B w w' → w.grownBy w' none → wpList P ops Q rest (a.put o.dst (.slice (some ⟨w.heap.size, 0, none⟩) n n)) w') : wpList P ops Q (o :: rest) a w := by
  obtain ⟨i0, hi, hz0, hz1, hz2⟩ := info_parts hinfo
  refine wpList_make_full w hg l c t hop B e i0 (.int .u8 0) 1 ht hi hz0 hz1 kl kc L C n hl hc hL hC (by rw [hz2]; omega) (by unfold maxLen; omega) hB ?_
  intro w' hown hg'
  have e1 : (madeCells (Value.int .u8 0).cells (n * 1)).toList = (List.replicate n (0 : UInt8)).map vb := by
    rw [Nat.mul_one]
    refine (toList_madeCells_one (.int .u8 0) n).trans ?_
    simp [vb]
  rw [e1] at hown
  exact hK w' hown (below_of_grown hg' hB (by simp)) hg'
/-- 'out[k] = c', the first k bytes being done. -/
theorem own_store {w : World} {B : Nat} {e : TypeId} {G n k : Nat} {done : List UInt8} (h : w.ownsRow B e 1 (.slice (some ⟨G, 0, none⟩) n n) n ((done ++ List.replicate (n - k) (0 : UInt8)).map vb)) (hd : done.length = k) (hk : k < n) (c : UInt8) (X : Int) (hX : X = (c.toNat : Int)) :
    (w.setCell ⟨G, k, none⟩ (.int .u8 X)).ownsRow B e 1 (.slice (some ⟨G, 0, none⟩) n n) n ((done ++ [c] ++ List.replicate (n - (k + 1)) (0 : UInt8)).map vb) ∧ w.grownBy (w.setCell ⟨G, k, none⟩ (.int .u8 X)) (some G) := by
  have h1 := h.stored k (.int .u8 X)
  refine ⟨?_, h1.2⟩
  have e1 : ((done ++ List.replicate (n - k) (0 : UInt8)).map vb).set k (.int .u8 X) = (done ++ [c] ++ List.replicate (n - (k + 1)) (0 : UInt8)).map vb := by
    rw [show n - k = (n - (k + 1)) + 1 from by omega, List.replicate_succ]
    simp only [List.map_append, List.map_cons, List.append_assoc, List.cons_append, List.nil_append]
    rw [List.set_append]
    simp [hd, hX, vb]
  rw [← e1]; exact h1.1
theorem own_cell {w : World} {B : Nat} {e : TypeId} {G n cap : Nat} {l : List UInt8} (h : w.ownsRow B e 1 (.slice (some ⟨G, 0, none⟩) n cap) n (l.map vb)) (k : Nat) (hk : k < n) : w.cell? ⟨G, k, none⟩ = some (.int .u8 ((l[k]?.getD 0).toNat : Int)) := by
  have hl := own_len h
  rw [h.cellAt k (by omega), List.getElem?_map, List.getElem?_eq_getElem (by omega)]
  simp [vb]
theorem own_below {w w' : World} {B : Nat} {e : TypeId} {v : Value} {n : Nat} {xs : List Value} (h : w.ownsRow B e 1 v n xs) (hb : Below w.heap.size w w') : w'.ownsRow B e 1 v n xs :=
  h.kept (grown_below none hb) (by cases hv : v.ownBlock <;> simp)

/-- 'out = append(out, s...)' of a string's bytes. -/
theorem app_str {P : Program} {w : World} {ops : Array Oper} {rest : List Oper} {o : Oper} {a : Act} {Q : Exit → Act → World → Prop} (hgd : o.guard = none) (sl x : Operand) (t u : TypeId)
    (ho : o.op = .call { callee := .builtin .append, args := #[sl, x], argTypes := #[t, u] }) (B : Nat) (e : TypeId) (ht : P.underlying t = some (.slice e)) (hu : P.underlying u = some .string)
    (hinfo : (P.info? e).map (fun i => (i.zero, i.size, i.bytes)) = some (some (.int .u8 0), 1, 1)) (v : Value) (n : Nat) (l : List UInt8) (hs : a.eval sl = v) (hown : w.ownsRow B e 1 v n (l.map vb)) (s : ByteArray) (hx : a.eval x = .string s)
    (hn : n + s.size ≤ 100000000000) (hB : B ≤ w.heap.size)
    (h : ∀ v' w', w'.ownsRow B e 1 v' (n + s.size) ((l ++ s.data.toList).map vb) → Below B w w' → w.grownBy w' v.ownBlock → wpList P ops Q rest (a.put o.dst v') w') : wpList P ops Q (o :: rest) a w := by
  obtain ⟨i0, hi, hz0, hz1, hz2⟩ := info_parts hinfo
  refine Lib.wpList_append_own_string _ hgd sl x t u ho B e i0 ht hu hi hz0 hz1 hz2 v n (l.map vb) hs hown s hx (by unfold maxLen; omega) (by omega) hB ?_
  intro v' w' hown' hg _
  refine h v' w' ?_ (below_of_grown hg hB (fun g hg => (hown.lt g hg).1)) hg
  rw [List.map_append]; exact hown'
theorem two_new (w : World) (x y : Value) (t : TypeId) : ∀ j u, [x, y][j]? = some u → (w.alloc (.cells #[x, y] t)).cell? ((⟨w.heap.size, 0, none⟩ : Addr).add j) = some u := by
  intro j u hj
  match j, hj with
  | 0, hj =>
    simp at hj
    subst hj
    have : ((⟨w.heap.size, 0, none⟩ : Addr).add 0) = ⟨w.heap.size, 0, none⟩ := by simp [Addr.add]
    rw [this]
    exact (Blk.new w t #[x, y]).cell 0
  | 1, hj =>
    simp at hj
    subst hj
    have : ((⟨w.heap.size, 0, none⟩ : Addr).add 1) = ⟨w.heap.size, 1, none⟩ := by simp [Addr.add]
    rw [this]
    exact (Blk.new w t #[x, y]).cell 1
/-- 'out = append(out, x, y)' of two bytes. -/
theorem app_two {P : Program} {w : World} {ops : Array Oper} {rest : List Oper} {o : Oper} {a : Act} {Q : Exit → Act → World → Prop} (hgd : o.guard = none) (s x : Operand) (t : TypeId)
    (ho : o.op = .call { callee := .builtin .append, args := #[s, x], argTypes := #[t, t] }) (B : Nat) (e : TypeId) (ht : P.underlying t = some (.slice e))
    (hinfo : (P.info? e).map (fun i => (i.zero, i.size, i.bytes)) = some (some (.int .u8 0), 1, 1)) (v : Value) (n : Nat) (l : List UInt8) (hs : a.eval s = v) (hown : w.ownsRow B e 1 v n (l.map vb)) (c d : UInt8) (X Y : Int) (hX : X = (c.toNat : Int)) (hY : Y = (d.toNat : Int)) (cp : Nat)
    (hx : a.eval x = .slice (some ⟨w.heap.size, 0, none⟩) 2 cp) (hn : n ≤ 100000000000) (hB : B ≤ w.heap.size)
    (h : ∀ v' w', w'.ownsRow B e 1 v' (n + 2) ((l ++ [c, d]).map vb) → Below B w w' → w.grownBy w' v.ownBlock → wpList P ops Q rest (a.put o.dst v') w') : wpList P ops Q (o :: rest) a (w.alloc (.cells #[.int .u8 X, .int .u8 Y] e)) := by
  obtain ⟨i0, hi, hz0, hz1, hz2⟩ := info_parts hinfo
  refine wpList_append_own _ hgd s x t ho B e i0 (.int .u8 0) 1 1 ht hi hz0 hz1 hz2 rfl (by decide) v n (l.map vb) hs (hown.alloc _) ⟨w.heap.size, 0, none⟩ 2 cp [.int .u8 X, .int .u8 Y] hx rfl (two_new w _ _ e) ?_ ?_ (by omega) ?_ ?_
  · intro u hu; simp at hu; rcases hu with rfl | rfl <;> rfl
  · unfold maxLen; omega
  · have := World.size_alloc w (.cells #[.int .u8 X, .int .u8 Y] e); omega
  · intro v' w' hown' hg _
    have hg2 : w.grownBy w' v.ownBlock := grown_trans (World.grownBy_alloc w _ _) hg
    refine h v' w' ?_ (below_of_grown hg2 hB (fun g hg => (hown.lt g hg).1)) hg2
    rw [List.map_append]
    have e1 : [Value.int .u8 X, .int .u8 Y] = [c, d].map vb := by simp [vb, hX, hY]
    rw [← e1]; exact hown'
end

section
open Go.ChangeShapes Go.WideShapes Go.ChangeAt Go.RowKit Go.Joins
set_option linter.unusedVariables false

def orderOk (o : Int) : Bool := o == 0 || o == 1
def inB (n lo hi : Int) : Bool := decide (lo ≤ n ∧ n ≤ hi)
def setOk (o l m : Int) : Bool := orderOk o && inB l 1 8 && inB m (l + 2) 10
abbrev Same (v : Value) (w : World) (e : Ending) (w' : World) : Prop := e = .returned v ∧ w = w'

theorem c_l1Order (o : Int) (w : World) : Calls Try.prog 55 #[.int .i64 o] w (Same (.bool (orderOk o)) w) := by
  go_enter Try.func55, Try.ntmps55
  go_wp2
  all_goals
    go_ret
    exact ⟨ret_bool (by simp [orderOk, *]), rfl⟩

theorem c_l1In (n lo hi : Int) (w : World) : Calls Try.prog 32 #[.int .i64 n, .int .i64 lo, .int .i64 hi] w (Same (.bool (inB n lo hi)) w) := by
  go_enter Try.func32, Try.ntmps32
  go_wp2
  all_goals
    go_ret
    exact ⟨ret_bool (by simp [inB]; omega), rfl⟩

theorem inB_iff {n lo hi : Int} : inB n lo hi = true ↔ lo ≤ n ∧ n ≤ hi := by simp [inB]

theorem setOk_iff {o l m : Int} : setOk o l m = true ↔ (o = 0 ∨ o = 1) ∧ (1 ≤ l ∧ l ≤ 8) ∧ (l + 2 ≤ m ∧ m ≤ 10) := by simp [setOk, inB, orderOk, and_assoc]

theorem c_sSettingValid (o l m : Int) (w : World) : Calls Try.prog 50 #[.agg #[.int .i64 o, .int .i64 l, .int .i64 m]] w fun e w' => e = .returned (.bool (setOk o l m)) ∧ Below w.heap.size w w' := by
  cases h1 : orderOk o with
  | false =>
    go_enter Try.func50, Try.ntmps50
    go_wp2_with (go_at_call 55; refine (c_l1Order _ _).mono ?_; rintro e w' ⟨rfl, rfl⟩)
    go_ret
    exact ⟨ret_bool (by simp [setOk, h1]), (Below.refl _ _).alloc (Nat.le_refl _) _⟩
  | true =>
    cases h2 : inB l 1 8 with
    | false =>
      go_enter Try.func50, Try.ntmps50
      go_wp2_with (first | (go_at_call 55; refine (c_l1Order _ _).mono ?_; rintro e w' ⟨rfl, rfl⟩) | (go_at_call 32; refine (c_l1In _ _ _ _).mono ?_; rintro e w' ⟨rfl, rfl⟩))
      go_ret
      exact ⟨ret_bool (by simp [setOk, h1, h2]), (Below.refl _ _).alloc (Nat.le_refl _) _⟩
    | true =>
      have hl := inB_iff.1 h2
      go_enter Try.func50, Try.ntmps50
      go_wp2_with (first | (go_at_call 55; refine (c_l1Order _ _).mono ?_; rintro e w' ⟨rfl, rfl⟩) | (go_at_call 32; refine (c_l1In _ _ _ _).mono ?_; rintro e w' ⟨rfl, rfl⟩))
      go_ret
      exact ⟨ret_bool (by simp [setOk, h1, h2]), (Below.refl _ _).alloc (Nat.le_refl _) _⟩
end

section
open Go.ChangeShapes Go.WideShapes Go.ChangeAt Go.RowKit Go.Joins
set_option linter.unusedVariables false
end

section
namespace M
/-- the number whose bits, the lowest first, are these -/
def num : List Bool → Nat
  | [] => 0
  | b :: t => b.toNat + 2 * num t

theorem num_lt (l : List Bool) : num l < 2 ^ l.length := by
  induction l with
  | nil => simp [num]
  | cons b t ih => simp only [num, List.length_cons, Nat.pow_succ]; cases b <;> simp <;> omega

theorem num_append (l : List Bool) (r : List Bool) : num (l ++ r) = num l + 2 ^ l.length * num r := by
  induction l with
  | nil => simp [num]
  | cons b t ih =>
    simp only [num, List.cons_append, List.length_cons, ih, Nat.pow_succ]
    rw [Nat.mul_add, Nat.mul_comm (2 ^ t.length) 2, Nat.mul_assoc]; omega

/-- the lowest n binary digits, the lowest first -/
def bitsOf : Nat → Nat → List Bool
  | 0, _ => []
  | n + 1, k => k.testBit 0 :: bitsOf n (k / 2)

theorem bitsOf_length (n k : Nat) : (bitsOf n k).length = n := by
  induction n generalizing k with
  | zero => rfl
  | succ n ih => simp [bitsOf, ih]

theorem num_bitsOf (n k : Nat) (h : k < 2 ^ n) : num (bitsOf n k) = k := by
  induction n generalizing k with
  | zero => simp [bitsOf, num] at *; omega
  | succ n ih =>
    have h2 : k / 2 < 2 ^ n := by rw [Nat.pow_succ] at h; omega
    simp only [bitsOf, num, ih _ h2, Nat.testBit_zero]
    by_cases hk : k % 2 = 1 <;> simp [hk] <;> omega

theorem bitsOf_num (l : List Bool) : bitsOf l.length (num l) = l := by
  induction l with
  | nil => rfl
  | cons b t ih =>
    simp only [List.length_cons, bitsOf, num, Nat.testBit_zero]
    have h2 : (b.toNat + 2 * num t) / 2 = num t := by cases b <;> simp <;> omega
    rw [h2, ih]
    cases b <;> simp <;> omega

theorem bitsOf_get (n k i : Nat) (h : i < n) : (bitsOf n k)[i]? = some (k.testBit i) := by
  induction n generalizing k i with
  | zero => omega
  | succ n ih =>
    cases i with
    | zero => simp [bitsOf]
    | succ i => simp only [bitsOf, List.getElem?_cons_succ, ih _ i (by omega), Nat.testBit_succ]

theorem bitsOf_snoc (n k : Nat) : bitsOf (n + 1) k = bitsOf n k ++ [k.testBit n] := by
  induction n generalizing k with
  | zero => simp [bitsOf]
  | succ n ih => rw [bitsOf, ih, bitsOf, List.cons_append, ← Nat.testBit_succ]
theorem bitsOf_map (n k : Nat) : bitsOf n k = (List.range n).map fun i => k.testBit i := by
  induction n with
  | zero => rfl
  | succ n ih => rw [bitsOf_snoc, ih, List.range_succ, List.map_append]; rfl
theorem bitsOf_rev (n k : Nat) : (bitsOf n k).reverse = (List.range n).map fun i => k.testBit (n - 1 - i) := by
  apply List.ext_getElem?
  intro i
  by_cases h : i < n
  · rw [List.getElem?_reverse (by rw [bitsOf_length]; exact h), bitsOf_length, bitsOf_get _ _ _ (by omega)]
    simp [h]
  · rw [List.getElem?_eq_none (by rw [List.length_reverse, bitsOf_length]; omega), List.getElem?_eq_none (by simp; omega)]

/-- the bits of an order (true: the highest first) -/
def dir {α : Type} (high : Bool) (l : List α) : List α := if high then l.reverse else l
theorem dir_dir {α : Type} (h : Bool) (l : List α) : dir h (dir h l) = l := by cases h <;> simp [dir]
theorem dir_length {α : Type} (h : Bool) (l : List α) : (dir h l).length = l.length := by cases h <;> simp [dir]

/-- bits as letters -/
def chr (b : Bool) : UInt8 := if b then 49 else 48
def asc (l : List Bool) : List UInt8 := l.map chr
def bit (c : UInt8) : Bool := c == 49
theorem bit_chr (b : Bool) : bit (chr b) = b := by cases b <;> rfl
def isBits (l : List UInt8) : Bool := l.all fun c => c == 48 || c == 49
theorem asc_bits (l : List UInt8) (h : isBits l = true) : asc (l.map bit) = l := by
  induction l with
  | nil => rfl
  | cons c t ih =>
    simp only [isBits, List.all_cons, Bool.and_eq_true, Bool.or_eq_true, beq_iff_eq] at h
    have := ih (by simpa [isBits] using h.2)
    simp only [asc, List.map_cons, List.map_map] at *
    rw [this]
    rcases h.1 with rfl | rfl <;> rfl
theorem bits_asc (l : List Bool) : (asc l).map bit = l := by
  induction l with
  | nil => rfl
  | cons b t ih => simp only [asc, List.map_cons, List.map_map] at *; rw [ih, bit_chr]
theorem isBits_asc (l : List Bool) : isBits (asc l) = true := by
  simp only [isBits, asc, List.all_map, List.all_eq_true]
  intro b _; cases b <;> rfl

def bitsValid (l : List UInt8) : Bool := decide (l.length ≤ 32000) && isBits l

/-- the bits of a code -/
def codeBits (high : Bool) (code width : Nat) : List UInt8 := asc (dir high (bitsOf width code))
/-- the number of some bits -/
def bitsCode (high : Bool) (l : List UInt8) : Nat := num (dir high (l.map bit))

/-- a byte's bits, in an order -/
def byteBits (high : Bool) (c : UInt8) : List Bool := dir high (bitsOf 8 c.toNat)
def byteOf (high : Bool) (l : List Bool) : UInt8 := UInt8.ofNat (num (dir high (l ++ List.replicate (8 - l.length) false)))
theorem byteBits_length (h : Bool) (c : UInt8) : (byteBits h c).length = 8 := by simp [byteBits, dir_length, bitsOf_length]
theorem byteOf_byteBits (h : Bool) (c : UInt8) : byteOf h (byteBits h c) = c := by
  have hl := byteBits_length h c
  simp only [byteOf, hl, Nat.sub_self, List.replicate_zero, List.append_nil]
  rw [byteBits, dir_dir, num_bitsOf _ _ (by simpa using c.toNat_lt)]
  simp
theorem byteBits_byteOf (h : Bool) (l : List Bool) (hl : l.length = 8) : byteBits h (byteOf h l) = l := by
  simp only [byteOf, hl, Nat.sub_self, List.replicate_zero, List.append_nil, byteBits]
  have h1 := num_lt (dir h l)
  have h2 : (dir h l).length = 8 := by rw [dir_length, hl]
  rw [h2] at h1
  have h3 : (UInt8.ofNat (num (dir h l))).toNat = num (dir h l) := by simp only [UInt8.toNat_ofNat']; omega
  rw [h3]
  have h4 := bitsOf_num (dir h l)
  rw [h2] at h4
  rw [h4, dir_dir]

/-- the bits of a stream -/
def unpack (high : Bool) (s : List UInt8) : List Bool := s.flatMap (byteBits high)
theorem unpack_length (h : Bool) (s : List UInt8) : (unpack h s).length = 8 * s.length := by
  induction s with
  | nil => rfl
  | cons c t ih => simp only [unpack, List.flatMap_cons, List.length_append, byteBits_length, List.length_cons] at *; omega

theorem unpack_get (h : Bool) (s : List UInt8) (j : Nat) (hj : j < 8 * s.length) : (unpack h s)[j]? = (byteBits h (s[j / 8]?.getD 0))[j % 8]? := by
  induction s generalizing j with
  | nil => simp at hj
  | cons c t ih =>
    have e : unpack h (c :: t) = byteBits h c ++ unpack h t := rfl
    have hl := byteBits_length h c
    rw [e]
    by_cases h8 : j < 8
    · rw [List.getElem?_append_left (by omega), show j / 8 = 0 from by omega, show j % 8 = j from by omega]; rfl
    · rw [List.getElem?_append_right (by omega), hl, ih _ (by simp at hj; omega), show j / 8 = (j - 8) / 8 + 1 from by omega, show j % 8 = (j - 8) % 8 from by omega, List.getElem?_cons_succ]

/-- the bytes of some bits; fuel: the number of bytes -/
def packN (high : Bool) : Nat → List Bool → List UInt8
  | 0, _ => []
  | n + 1, l => byteOf high (l.take 8) :: packN high n (l.drop 8)
def pack (high : Bool) (l : List Bool) : List UInt8 := packN high ((l.length + 7) / 8) l
theorem packN_length (h : Bool) (n : Nat) (l : List Bool) : (packN h n l).length = n := by
  induction n generalizing l with
  | zero => rfl
  | succ n ih => simp [packN, ih]
theorem pack_length (h : Bool) (l : List Bool) : (pack h l).length = (l.length + 7) / 8 := packN_length _ _ _
theorem packN_unpack (h : Bool) (s : List UInt8) : packN h s.length (unpack h s) = s := by
  induction s with
  | nil => rfl
  | cons c t ih =>
    have e : unpack h (c :: t) = byteBits h c ++ unpack h t := rfl
    have hl := byteBits_length h c
    rw [e, List.length_cons, packN, List.take_append_of_le_length (by omega), List.drop_append_of_le_length (by omega), List.take_of_length_le (by omega), List.drop_of_length_le (by omega)]
    rw [byteOf_byteBits, List.nil_append, ih]
theorem pack_unpack (h : Bool) (s : List UInt8) : pack h (unpack h s) = s := by
  have := unpack_length h s
  rw [pack, this, show (8 * s.length + 7) / 8 = s.length from by omega, packN_unpack]
theorem packN_get (h : Bool) (n : Nat) (l : List Bool) (i : Nat) (hi : i < n) : (packN h n l)[i]? = some (byteOf h ((l.drop (8 * i)).take 8)) := by
  induction n generalizing l i with
  | zero => omega
  | succ n ih =>
    cases i with
    | zero => simp [packN]
    | succ i =>
      rw [packN, List.getElem?_cons_succ, ih _ _ (by omega), List.drop_drop]
      congr 4; omega

def padN (n : Nat) : Nat := (8 - n % 8) % 8
def pad (l : List Bool) : List Bool := l ++ List.replicate (padN l.length) false
theorem pad_length (l : List Bool) : (pad l).length = 8 * ((l.length + 7) / 8) := by simp [pad, padN]; omega
theorem unpack_packN (h : Bool) (n : Nat) (l : List Bool) (hl : l.length = 8 * n) : unpack h (packN h n l) = l := by
  induction n generalizing l with
  | zero => simp at hl; subst hl; rfl
  | succ n ih =>
    have e : unpack h (packN h (n + 1) l) = byteBits h (byteOf h (l.take 8)) ++ unpack h (packN h n (l.drop 8)) := rfl
    rw [e, byteBits_byteOf _ _ (by simp; omega), ih _ (by simp; omega), List.take_append_drop]
theorem byteOf_pad (h : Bool) (l : List Bool) (n : Nat) (hn : l.length + n ≤ 8) : byteOf h (l ++ List.replicate n false) = byteOf h l := by
  unfold byteOf
  rw [List.append_assoc, List.replicate_append_replicate]
  congr 5
  simp; omega
theorem packN_pad (h : Bool) (l : List Bool) (k : Nat) (n : Nat) (hk : l.length + k = 8 * n) (hk8 : k < 8) : packN h n (l ++ List.replicate k false) = packN h n l := by
  induction n generalizing l with
  | zero => rfl
  | succ n ih =>
    by_cases hn : n = 0
    · subst hn
      simp only [packN]
      rw [List.take_of_length_le (by simp; omega), List.take_of_length_le (by omega), byteOf_pad _ _ _ (by omega)]
    · rw [packN, packN, List.take_append_of_le_length (by omega), List.drop_append_of_le_length (by omega), ih _ (by simp; omega)]
theorem pack_pad (h : Bool) (l : List Bool) : pack h (pad l) = pack h l := by
  have hl := pad_length l
  rw [pack, hl, show (8 * ((l.length + 7) / 8) + 7) / 8 = (l.length + 7) / 8 from by omega]
  exact packN_pad h l _ _ (by simp only [padN]; omega) (by simp only [padN]; omega)
theorem unpack_pack (h : Bool) (l : List Bool) : unpack h (pack h l) = pad l := by
  rw [← pack_pad, pack, pad_length, show (8 * ((l.length + 7) / 8) + 7) / 8 = (l.length + 7) / 8 from by omega]
  exact unpack_packN h _ _ (pad_length l)
theorem packN_append (h : Bool) (n m : Nat) (l r : List Bool) (hl : l.length = 8 * n) : packN h (n + m) (l ++ r) = packN h n l ++ packN h m r := by
  induction n generalizing l with
  | zero => simp at hl; subst hl; simp [packN]
  | succ n ih =>
    rw [show n + 1 + m = (n + m) + 1 from by omega, packN, packN, List.take_append_of_le_length (by omega), List.drop_append_of_le_length (by omega), ih _ (by simp; omega), List.cons_append]
theorem pack_append (h : Bool) (l r : List Bool) (n : Nat) (hl : l.length = 8 * n) : pack h (l ++ r) = pack h l ++ pack h r := by
  rw [pack, pack, pack, List.length_append, hl, show (8 * n + r.length + 7) / 8 = n + (r.length + 7) / 8 from by omega, show (8 * n + 7) / 8 = n from by omega]
  exact packN_append h n _ l r hl

/-- a byte with its bits in reverse -/
def turnByte (c : UInt8) : UInt8 := byteOf true (byteBits false c)
def turn (s : List UInt8) : List UInt8 := s.map turnByte
theorem byteBits_turn (h : Bool) (c : UInt8) : byteBits (!h) (turnByte c) = byteBits h c := by
  have h1 : byteBits true (turnByte c) = byteBits false c := byteBits_byteOf true _ (byteBits_length _ _)
  cases h
  · exact h1
  · have h2 : (byteBits true (turnByte c)).reverse = (byteBits false c).reverse := by rw [h1]
    simpa [byteBits, dir] using h2
theorem turnByte_turn (c : UInt8) : turnByte (turnByte c) = c := by
  have h1 := byteBits_turn true c
  simp only [Bool.not_true] at h1
  rw [turnByte, h1, byteOf_byteBits]
theorem turn_turn (s : List UInt8) : turn (turn s) = s := by
  simp only [turn, List.map_map]
  conv => rhs; rw [← List.map_id s]
  congr 1; funext c; exact turnByte_turn c
theorem unpack_turn (h : Bool) (s : List UInt8) : unpack (!h) (turn s) = unpack h s := by
  simp only [unpack, turn, List.flatMap_map]
  congr 1; funext c; exact byteBits_turn h c
theorem turn_eq (s : List UInt8) : turn s = pack true (unpack false s) := by
  rw [← unpack_turn false s, Bool.not_false, pack_unpack]

/-- the number that the first digits of a number of W digits make, zeros for the others -/
def numK (high : Bool) (W : Nat) (bs : List Bool) : Nat := if high then num bs.reverse * 2 ^ (W - bs.length) else num bs
theorem or_add (i a b : Nat) (h : b < 2 ^ i) : 2 ^ i * a ||| b = 2 ^ i * a + b := (Nat.two_pow_add_eq_or_of_lt h a).symm
theorem numK_snoc_low (W : Nat) (bs : List Bool) (b : Bool) : numK false W (bs ++ [b]) = numK false W bs ||| (b.toNat * 2 ^ bs.length) := by
  have h := num_lt bs
  simp only [numK, Bool.false_eq_true, if_false, num_append]
  have e : num [b] = b.toNat := by simp [num]
  rw [e, Nat.or_comm, Nat.mul_comm b.toNat, or_add _ _ _ h]; omega
theorem numK_snoc_high (W : Nat) (bs : List Bool) (b : Bool) (hW : bs.length < W) : numK true W (bs ++ [b]) = numK true W bs ||| (b.toNat * 2 ^ (W - 1 - bs.length)) := by
  simp only [numK, if_true, List.reverse_append, List.reverse_cons, List.reverse_nil, List.nil_append, List.cons_append, List.length_append, List.length_cons, List.length_nil, num]
  have e1 : W - bs.length = (W - 1 - bs.length) + 1 := by omega
  have e2 : W - (bs.length + (0 + 1)) = W - 1 - bs.length := by omega
  rw [e1, e2, Nat.mul_comm (num bs.reverse), or_add]
  · rw [Nat.add_mul, Nat.pow_succ, Nat.mul_comm 2 (num _), Nat.mul_assoc, Nat.mul_comm (num _), Nat.mul_comm 2]; omega
  · rw [Nat.pow_succ]; have := Nat.pow_pos (n := W - 1 - bs.length) (by omega : 0 < 2); cases b <;> simp <;> omega
theorem numK_lt (high : Bool) (W : Nat) (bs : List Bool) (h : bs.length ≤ W) : numK high W bs < 2 ^ W := by
  cases high
  · exact Nat.lt_of_lt_of_le (num_lt bs) (Nat.pow_le_pow_right (by omega) h)
  · have h1 := num_lt bs.reverse
    rw [List.length_reverse] at h1
    have h2 := Nat.pow_pos (n := W - bs.length) (by omega : 0 < 2)
    have h3 : num bs.reverse * 2 ^ (W - bs.length) < 2 ^ bs.length * 2 ^ (W - bs.length) := Nat.mul_lt_mul_of_pos_right h1 h2
    rw [← Nat.pow_add, show bs.length + (W - bs.length) = W from by omega] at h3
    simpa [numK] using h3
theorem numK_full (high : Bool) (bs : List Bool) : numK high bs.length bs = num (dir high bs) := by
  cases high <;> simp [numK, dir]
theorem num_zeros (l : List Bool) (n : Nat) : num (l ++ List.replicate n false) = num l := by
  have : num (List.replicate n false) = 0 := by
    induction n with
    | zero => rfl
    | succ n ih => simp [List.replicate_succ, num, ih]
  rw [num_append, this]; simp
theorem num_zeros_front (l : List Bool) (n : Nat) : num (List.replicate n false ++ l) = num l * 2 ^ n := by
  induction n with
  | zero => simp
  | succ n ih => simp only [List.replicate_succ, List.cons_append, num, ih, Nat.pow_succ]; simp; rw [← Nat.mul_assoc, Nat.mul_comm 2, Nat.mul_assoc, Nat.mul_comm 2]
theorem numK_byte (high : Bool) (bs : List Bool) : numK high 8 bs = num (dir high (bs ++ List.replicate (8 - bs.length) false)) := by
  cases high
  · simp [numK, dir, num_zeros]
  · simp [numK, dir, num_zeros_front]

end M
namespace M
/-- the number of i bits, taken from the end of the order -/
def hornerN (high : Bool) (L : List Bool) (i : Nat) : Nat := if high then num (L.take i).reverse else num (L.drop (L.length - i))
theorem hornerN_zero (high : Bool) (L : List Bool) : hornerN high L 0 = 0 := by cases high <;> simp [hornerN, num]
theorem hornerN_high (L : List Bool) (i : Nat) (b : Bool) (h : L[i]? = some b) : hornerN true L (i + 1) = 2 * hornerN true L i + b.toNat := by
  simp only [hornerN, if_true, List.take_add_one, h, Option.toList, List.reverse_append, List.reverse_cons, List.reverse_nil, List.nil_append, List.cons_append, num]; omega
theorem hornerN_low (L : List Bool) (i : Nat) (b : Bool) (hi : i < L.length) (h : L[L.length - 1 - i]? = some b) : hornerN false L (i + 1) = 2 * hornerN false L i + b.toNat := by
  have hj : L.length - 1 - i < L.length := by omega
  have e : L.drop (L.length - (i + 1)) = b :: L.drop (L.length - i) := by
    rw [show L.length - (i + 1) = L.length - 1 - i from by omega, List.drop_eq_getElem_cons hj]
    rw [List.getElem?_eq_getElem hj] at h
    rw [show L.length - i = L.length - 1 - i + 1 from by omega]
    simp at h; rw [h]
  simp only [hornerN, Bool.false_eq_true, if_false, e, num]; omega
theorem hornerN_full (high : Bool) (L : List Bool) : hornerN high L L.length = num (dir high L) := by cases high <;> simp [hornerN, dir]
theorem hornerN_lt (high : Bool) (L : List Bool) (i : Nat) (h : i ≤ L.length) : hornerN high L i < 2 ^ i := by
  cases high
  · have := num_lt (L.drop (L.length - i)); rw [List.length_drop, show L.length - (L.length - i) = i from by omega] at this; simpa [hornerN] using this
  · have := num_lt (L.take i).reverse; rw [List.length_reverse, List.length_take, Nat.min_eq_left h] at this; simpa [hornerN] using this

/-- hexadecimal digits -/
def hexd (n : Nat) : UInt8 := if n < 10 then UInt8.ofNat (48 + n) else UInt8.ofNat (87 + n)
def hexv (c : UInt8) : Option Nat := if 48 ≤ c.toNat ∧ c.toNat ≤ 57 then some (c.toNat - 48) else if 97 ≤ c.toNat ∧ c.toNat ≤ 102 then some (c.toNat - 87) else none
theorem hexv_lt (c : UInt8) (n : Nat) (h : hexv c = some n) : n < 16 := by
  unfold hexv at h
  split at h
  · simp at h; omega
  · split at h
    · simp at h; omega
    · simp at h
theorem hexv_hexd (n : Nat) (h : n < 16) : hexv (hexd n) = some n := by
  have : ∀ n : Fin 16, hexv (hexd n) = some n.val := by decide
  exact this ⟨n, h⟩
theorem hexd_hexv (c : UInt8) (n : Nat) (h : hexv c = some n) : hexd n = c := by
  have hc := c.toNat_lt
  unfold hexv at h
  unfold hexd
  apply UInt8.toNat_inj.1
  split at h
  · simp at h; rw [if_pos (by omega)]; simp; omega
  · split at h
    · simp at h; rw [if_neg (by omega)]; simp; omega
    · simp at h
def hex (s : List UInt8) : List UInt8 := s.flatMap fun c => [hexd (c.toNat / 16), hexd (c.toNat % 16)]
theorem hex_length (s : List UInt8) : (hex s).length = 2 * s.length := by
  induction s with
  | nil => rfl
  | cons c t ih => simp only [hex, List.flatMap_cons, List.length_append, List.length_cons, List.length_nil] at *; omega
theorem hex_snoc (s : List UInt8) (c : UInt8) : hex (s ++ [c]) = hex s ++ [hexd (c.toNat / 16), hexd (c.toNat % 16)] := by simp [hex]
def unhex : List UInt8 → Option (List UInt8)
  | [] => some []
  | [_] => none
  | a :: b :: t => match hexv a, hexv b, unhex t with
    | some x, some y, some r => some (UInt8.ofNat (16 * x + y) :: r)
    | _, _, _ => none
theorem unhex_hex (s : List UInt8) : unhex (hex s) = some s := by
  induction s with
  | nil => rfl
  | cons c t ih =>
    have hc := c.toNat_lt
    have e : hex (c :: t) = hexd (c.toNat / 16) :: hexd (c.toNat % 16) :: hex t := rfl
    rw [e, unhex, hexv_hexd _ (by omega), hexv_hexd _ (by omega), ih]
    simp only [Option.some.injEq, List.cons.injEq, and_true]
    apply UInt8.toNat_inj.1
    simp; omega
theorem hex_unhex : (l : List UInt8) → (s : List UInt8) → unhex l = some s → hex s = l
  | [], s, h => by simp [unhex] at h; subst h; rfl
  | [_], s, h => by simp [unhex] at h
  | a :: b :: t, s, h => by
    rw [unhex] at h
    split at h
    · rename_i x y r hx hy hr
      simp only [Option.some.injEq] at h
      subst h
      have := hexv_lt _ _ hx
      have := hexv_lt _ _ hy
      have e : hex (UInt8.ofNat (16 * x + y) :: r) = hexd ((UInt8.ofNat (16 * x + y)).toNat / 16) :: hexd ((UInt8.ofNat (16 * x + y)).toNat % 16) :: hex r := rfl
      have e2 : (UInt8.ofNat (16 * x + y)).toNat = 16 * x + y := by simp; omega
      rw [e, e2, show (16 * x + y) / 16 = x from by omega, show (16 * x + y) % 16 = y from by omega, hexd_hexv _ _ hx, hexd_hexv _ _ hy, hex_unhex t r hr]
    · simp at h
theorem unhex_length (l s : List UInt8) (h : unhex l = some s) : l.length = 2 * s.length := by rw [← hex_unhex l s h, hex_length]
theorem unhex_append : (l r : List UInt8) → l.length % 2 = 0 → unhex (l ++ r) = match unhex l, unhex r with | some x, some y => some (x ++ y) | _, _ => none
  | [], r, _ => by simp [unhex]; cases unhex r <;> rfl
  | [_], r, h => by simp at h
  | a :: b :: t, r, h => by
    simp only [List.cons_append, unhex, unhex_append t r (by simp at h; omega)]
    cases hexv a <;> cases hexv b <;> cases unhex t <;> cases unhex r <;> simp
/-- the digits of the first 2k letters, and two letters more -/
theorem unhex_step (l : List UInt8) (k : Nat) (a b : UInt8) (ha : l[2 * k]? = some a) (hb : l[2 * k + 1]? = some b) :
    unhex (l.take (2 * (k + 1))) = match unhex (l.take (2 * k)), hexv a, hexv b with | some s, some x, some y => some (s ++ [UInt8.ofNat (16 * x + y)]) | _, _, _ => none := by
  have hlen : 2 * k + 1 < l.length := by
    rcases Nat.lt_or_ge (2 * k + 1) l.length with h | h
    · exact h
    · rw [List.getElem?_eq_none h] at hb; simp at hb
  have e : l.take (2 * (k + 1)) = l.take (2 * k) ++ [a, b] := by
    rw [show 2 * (k + 1) = (2 * k + 1) + 1 from by omega, List.take_add_one, List.take_add_one, ha, hb]
    simp
  rw [e, unhex_append _ _ (by simp; omega)]
  cases unhex (l.take (2 * k)) <;> simp [unhex] <;> cases hexv a <;> cases hexv b <;> simp
theorem unhex_none (l : List UInt8) (k : Nat) (hk : 2 * k ≤ l.length) (h : unhex (l.take (2 * k)) = none) : unhex l = none := by
  have e := unhex_append (l.take (2 * k)) (l.drop (2 * k)) (by simp; omega)
  rw [List.take_append_drop, h] at e
  exact e
def fmtHex (s : List UInt8) : List UInt8 := if s.length ≤ 4000 then hex s else []
def parseHex (t : List UInt8) : Option (List UInt8) := if t.length % 2 = 0 ∧ t.length ≤ 8000 then unhex t else none
end M
end

section
open Go.ChangeShapes Go.WideShapes Go.ChangeAt Go.RowKit Go.Joins
set_option linter.unusedVariables false

def pow2 (n : Int) : Int := 2 ^ n.toNat
def clearCode (o l m : Int) : Int := if setOk o l m = true then pow2 l else -1
def endCode (o l m : Int) : Int := if setOk o l m = true then pow2 l + 1 else -1
def lastCode (o l m : Int) : Int := if setOk o l m = true then pow2 m - 1 else -1

theorem pow2_bd {n : Int} (h1 : n ≤ 30) : 1 ≤ pow2 n ∧ pow2 n ≤ 1073741824 := by
  have h : (2 : Int) ^ n.toNat = ((2 ^ n.toNat : Nat) : Int) := by simp
  have h2 : 2 ^ n.toNat ≤ 2 ^ 30 := Nat.pow_le_pow_right (by omega) (by omega)
  have h3 : 0 < 2 ^ n.toNat := Nat.pow_pos (by omega)
  unfold pow2; rw [h]; omega

theorem wrap_pow {n : Int} (h1 : n ≤ 30) : wrap64 (2 ^ n.toNat) = pow2 n := by
  have := pow2_bd h1
  exact IntWalk.wrap64_in _ (by unfold pow2 at this; omega)
theorem wrap_pow1 {n : Int} (h1 : n ≤ 30) : wrap64 (wrap64 (2 ^ n.toNat) + 1) = pow2 n + 1 := by
  rw [wrap_pow h1]; have := pow2_bd h1
  exact IntWalk.wrap64_in _ (by omega)
theorem wrap_pow0 {n : Int} (h1 : n ≤ 30) : wrap64 (wrap64 (2 ^ n.toNat) - 1) = pow2 n - 1 := by
  rw [wrap_pow h1]; have := pow2_bd h1
  exact IntWalk.wrap64_in _ (by omega)

theorem c_l1Two (n : Int) (w : World) (h0 : 0 ≤ n) (h1 : n ≤ 30) : Calls Try.prog 49 #[.int .i64 n] w (Same (.int .i64 (pow2 n)) w) := by
  go_enter Try.func49, Try.ntmps49
  go_wp2
  go_ret
  exact ⟨ret_int (wrap_pow h1), rfl⟩

theorem c_l1Clear (o l m : Int) (w : World) (h0 : 0 ≤ l) (h1 : l ≤ 30) : Calls Try.prog 45 #[.agg #[.int .i64 o, .int .i64 l, .int .i64 m]] w fun e w' => e = .returned (.int .i64 (pow2 l)) ∧ Below w.heap.size w w' := by
  go_enter Try.func45, Try.ntmps45
  go_wp2_with (go_at_call 49; refine (c_l1Two _ _ (by omega) (by omega)).mono ?_; rintro e w' ⟨rfl, rfl⟩)
  go_ret
  exact ⟨rfl, by (repeat (first | with_reducible (first | assumption | exact Below.refl _ _ | refine bel_alloc ?_ _ | refine bel_drew ?_ | refine bel_drewN ?_ _ | refine bel_set ?_ (by first | omega | (simp; done) | (simp; omega)) _ | refine bel_trans ?_ (by assumption)) | assumption | refine bel_trans ?_ (by assumption)))⟩

theorem c_l1End (o l m : Int) (w : World) (h0 : 0 ≤ l) (h1 : l ≤ 30) : Calls Try.prog 64 #[.agg #[.int .i64 o, .int .i64 l, .int .i64 m]] w fun e w' => e = .returned (.int .i64 (pow2 l + 1)) ∧ Below w.heap.size w w' := by
  have hp := pow2_bd h1
  go_enter Try.func64, Try.ntmps64
  go_wp2_with (go_at_call 49; refine (c_l1Two _ _ (by omega) (by omega)).mono ?_; rintro e w' ⟨rfl, rfl⟩)
  go_ret
  exact ⟨rfl, by (repeat (first | with_reducible (first | assumption | exact Below.refl _ _ | refine bel_alloc ?_ _ | refine bel_drew ?_ | refine bel_drewN ?_ _ | refine bel_set ?_ (by first | omega | (simp; done) | (simp; omega)) _ | refine bel_trans ?_ (by assumption)) | assumption | refine bel_trans ?_ (by assumption)))⟩

theorem c_l1Last (o l m : Int) (w : World) (h0 : 0 ≤ m) (h1 : m ≤ 30) : Calls Try.prog 63 #[.agg #[.int .i64 o, .int .i64 l, .int .i64 m]] w fun e w' => e = .returned (.int .i64 (pow2 m - 1)) ∧ Below w.heap.size w w' := by
  have hp := pow2_bd h1
  go_enter Try.func63, Try.ntmps63
  go_wp2_with (go_at_call 49; refine (c_l1Two _ _ (by omega) (by omega)).mono ?_; rintro e w' ⟨rfl, rfl⟩)
  go_ret
  exact ⟨rfl, by (repeat (first | with_reducible (first | assumption | exact Below.refl _ _ | refine bel_alloc ?_ _ | refine bel_drew ?_ | refine bel_drewN ?_ _ | refine bel_set ?_ (by first | omega | (simp; done) | (simp; omega)) _ | refine bel_trans ?_ (by assumption)) | assumption | refine bel_trans ?_ (by assumption)))⟩
end

section
open Go.ChangeShapes Go.WideShapes Go.ChangeAt Go.RowKit Go.Joins
set_option linter.unusedVariables false

def nd (x : Nat) : Nat := max 1 (Lib.bitLen x)
def bitsNeeded (n : Int) : Int := if n < 0 then -1 else (nd n.toNat : Int)
theorem bitLen_zero : Lib.bitLen 0 = 0 := by decide
theorem nd_small {x : Nat} (h : x ≤ 1) : nd x = 1 := by
  have : x = 0 ∨ x = 1 := by omega
  rcases this with rfl | rfl <;> decide
theorem nd_half {x : Nat} (h : 2 ≤ x) (h2 : x < 2 ^ 64) : nd x = nd (x / 2) + 1 := by
  have h1 := Lib.bitLen_half x (by omega) h2
  have h3 := Lib.bitLen_half (x / 2) (by omega) (by omega)
  unfold nd; omega
theorem nd_pos (x : Nat) : 1 ≤ nd x := by unfold nd; omega
theorem nd_le {x : Nat} (h2 : x < 2 ^ 64) : nd x ≤ 64 := by
  have : ∀ k x : Nat, 1 ≤ k → x < 2 ^ k → k ≤ 64 → nd x ≤ k := by
    intro k
    induction k with
    | zero => intro x h; omega
    | succ k ih =>
      intro x _ hx hk
      by_cases h : 2 ≤ x
      · have hp : (2 : Nat) ^ (k + 1) ≤ 2 ^ 64 := Nat.pow_le_pow_right (by omega) (by omega)
        rw [nd_half h (by omega)]
        rw [Nat.pow_succ] at hx
        have hk1 : 1 ≤ k := by
          rcases Nat.eq_zero_or_pos k with e | e
          · subst e; simp at hx; omega
          · exact e
        have := ih (x / 2) hk1 (by omega) (by omega)
        omega
      · rw [nd_small (by omega)]; omega
  exact this 64 x (by omega) h2 (by omega)

theorem c_l1Needed (n : Int) (w : World) (h0 : 0 ≤ n) (h1 : n ≤ 9223372036854775807) : Calls Try.prog 85 #[.int .i64 n] w (Same (.int .i64 (nd n.toNat)) w) := by
  have hnd := nd_le (x := n.toNat) (by omega)
  go_enter Try.func85, Try.ntmps85
  go_wp2
  go_loop [0, 3] (fun a b => ∃ (x r : Nat), x < 2 ^ 63 ∧ a = .int .i64 x ∧ b = .int .i64 r ∧ r + nd x = nd n.toNat + 1) (fun a _ => (intOf a).toNat)
  case atStart => exact ⟨n.toNat, 1, by omega, by rw [Int.toNat_of_nonneg h0], rfl, by omega⟩
  case round =>
    obtain ⟨x, r, hx, rfl, rfl, hr⟩ := hrel
    have hx1 := nd_pos x
    by_cases h2 : 2 ≤ x
    · have HR := hid hr
      have hr2 : r ≤ 64 := by omega
      clear hr hx1
      go_wp2
      go_round
      case rel => exact ⟨x / 2, r + 1, by omega, by go_num, by go_num, by have := HR.out; rw [nd_half h2 (by omega)] at this; omega⟩
      case measure => simp [intOf]; omega
    · have hs := nd_small (x := x) (by omega)
      have HR := hid hr
      have HS := hid hs
      clear hr hx1 hs
      go_wp2
      go_ret
      exact ⟨ret_int (by have := HR.out; have := HS.out; omega), rfl⟩
end
end Go.Proofs.Ytlekjmgjnnljcaa
