/- Rows of blocks: what is read of them, append of one. No condition. Append of one block, and of one place, as a step of a region whose order is drawn. No condition. ParseBlock in the model. No condition but a size. ParseBlock in the model, where a header stands. No condition but a size. ParseBlock and l5Blocks in the model, by what stands at an index. readBlock by what stands at an index; readNext in the program, where it refuses. The layout of the header and the errors are as the program's text lays them. readNext in the program, where it takes a block. The layout of the header and the errors are as the program's text lays them. ContainerSize and CountRaw in the model. readAll in the program. The layout of the header and the errors are as the program's text lays them. readContainer and ContainerSize in the program. The layout of the header and the errors are as the program's text lays them. ContainerSize in the program, and its law's walk. The layout of the header and the errors are as the program's text lays them. -/
import Derived.Test.YtmlaaammfnboiaaGreatDoorYj
import Derived.Test.YtmlaaammfnboiaaGreatDoorBb
import Derived.OneCell
namespace Go.Proofs.YtmlaaammfnboiaaGreatDoor
section
open Go.ChangeShapes Go.WideShapes Go.ChangeAt Go.RowKit Go.Joins
set_option linter.unusedVariables false
set_option linter.unusedSimpArgs false

def bv (b : Bl) : List Value := [.int .i64 b.n, .bool b.raw, .int .i64 b.z, .string b.body]
def bvs (l : List Bl) : List Value := l.flatMap bv
theorem bvs_cons (b : Bl) (l : List Bl) : bvs (b :: l) = bv b ++ bvs l := by simp [bvs]
theorem bvs_append (l r : List Bl) : bvs (l ++ r) = bvs l ++ bvs r := by simp [bvs]
theorem bvs_len (l : List Bl) : (bvs l).length = l.length * 4 := by
 induction l with
 | nil => rfl
 | cons b l ih => rw [bvs_cons, List.length_append, ih]; simp [bv]; omega
theorem bvs_get (l : List Bl) (i : Nat) (b : Bl) (h : l[i]? = some b) (k : Nat) (hk : k < 4) : (bvs l)[i * 4 + k]? = (bv b)[k]? := by
 induction l generalizing i with
 | nil => simp at h
 | cons c l ih =>
  rw [bvs_cons]
  cases i with
  | zero =>
   simp at h; subst h
   rw [List.getElem?_append_left (by simp [bv]; omega)]
   simp
  | succ i =>
   rw [List.getElem?_append_right (by simp [bv]; omega)]
   have := ih i (by simpa using h)
   rw [← this]
   congr 1
   simp [bv]; omega

def BlsAt (w : World) (L : Nat) (A : Option Addr) (cap : Nat) (l : List Bl) : Prop :=
 l.length ≤ cap ∧ cap ≤ maxLen ∧ (A = none → cap = 0) ∧ (0 < l.length → ∃ g off, A = some ⟨g, off, none⟩ ∧ g < L ∧ ∀ i b, l[i]? = some b → w.cell? ⟨g, off + i * 4, none⟩ = some (.int .i64 b.n) ∧ w.cell? ⟨g, off + i * 4 + 1, none⟩ = some (.bool b.raw) ∧ w.cell? ⟨g, off + i * 4 + 2, none⟩ = some (.int .i64 b.z) ∧ w.cell? ⟨g, off + i * 4 + 3, none⟩ = some (.string b.body))
theorem BlsAt.keep {w w' : World} {L cap : Nat} {A : Option Addr} {l : List Bl} (h : BlsAt w L A cap l) (hk : ∀ k, k < L → w'.heap[k]? = w.heap[k]?) : BlsAt w' L A cap l :=
 ⟨h.1, h.2.1, h.2.2.1, fun hn => by
  obtain ⟨b, off, e, hb, hc⟩ := h.2.2.2 hn
  refine ⟨b, off, e, hb, fun i p hi => ?_⟩
  have h1 := hc i p hi
  exact ⟨(World.cell?_of_block (a := ⟨b, off + i * 4, none⟩) (hk b hb)).trans h1.1, (World.cell?_of_block (a := ⟨b, off + i * 4 + 1, none⟩) (hk b hb)).trans h1.2.1, (World.cell?_of_block (a := ⟨b, off + i * 4 + 2, none⟩) (hk b hb)).trans h1.2.2.1, (World.cell?_of_block (a := ⟨b, off + i * 4 + 3, none⟩) (hk b hb)).trans h1.2.2.2⟩⟩
theorem BlsAt.below {w w' : World} {L B cap : Nat} {A : Option Addr} {l : List Bl} (h : BlsAt w L A cap l) (hb : Below B w w') (hL : L ≤ B) : BlsAt w' L A cap l :=
 h.keep fun k hk => hb.block k (by omega)
theorem BlsAt.nil (w : World) (L : Nat) : BlsAt w L none 0 [] := ⟨by simp, by simp [maxLen], fun _ => rfl, fun h => by simp at h⟩
theorem bl_at {w : World} {L cap : Nat} {A : Option Addr} {l : List Bl} (h : BlsAt w L A cap l) (i : Nat) (hi : i < l.length) : ∃ g off, A = some ⟨g, off, none⟩ ∧ g < L ∧ w.cell? ⟨g, off + i * 4, none⟩ = some (.int .i64 l[i].n) ∧ w.cell? ⟨g, off + i * 4 + 1, none⟩ = some (.bool l[i].raw) ∧ w.cell? ⟨g, off + i * 4 + 2, none⟩ = some (.int .i64 l[i].z) ∧ w.cell? ⟨g, off + i * 4 + 3, none⟩ = some (.string l[i].body) := by
 obtain ⟨g, off, e, hg, hc⟩ := h.2.2.2 (by omega)
 have := hc i l[i] (List.getElem?_eq_getElem hi)
 exact ⟨g, off, e, hg, this.1, this.2.1, this.2.2.1, this.2.2.2⟩

theorem own_bls {w : World} {B : Nat} {e : TypeId} {v : Value} {n : Nat} {l : List Bl} (h : w.ownsRow B e 4 v n (bvs l)) : ∃ A cap, v = .slice A l.length cap ∧ BlsAt w w.heap.size A cap l ∧ n = l.length := by
 have hl := h.1
 rw [bvs_len] at hl
 have hn : n = l.length := by omega
 subst hn
 have hlt := h.lt
 rcases h.2 with ⟨rfl, h0⟩ | ⟨g, cap, cur, rfl, hb, hh, hnc, hcm, hsz, htk⟩
 ·have : l = [] := List.length_eq_zero_iff.1 h0
  subst this
  exact ⟨none, 0, rfl, BlsAt.nil _ _, rfl⟩
 ·have hg := hlt g rfl
  refine ⟨some ⟨g, 0, none⟩, cap, rfl, ⟨hnc, hcm, by simp, fun hn => ⟨g, 0, rfl, hg.2, fun i p hi => ?_⟩⟩, rfl⟩
  have hi2 := get_lt hi
  have c0 := h.cellAt (i * 4 + 0) (by omega)
  have c1 := h.cellAt (i * 4 + 1) (by omega)
  have c2 := h.cellAt (i * 4 + 2) (by omega)
  have c3 := h.cellAt (i * 4 + 3) (by omega)
  rw [bvs_get l i p hi 0 (by omega)] at c0
  rw [bvs_get l i p hi 1 (by omega)] at c1
  rw [bvs_get l i p hi 2 (by omega)] at c2
  rw [bvs_get l i p hi 3 (by omega)] at c3
  simp only [Nat.zero_add]
  exact ⟨c0, c1, c2, c3⟩

theorem bl_new (w : World) (x y z u : Value) (t : TypeId) (b : Bl) (hx : [x, y, z, u] = bv b) : ∀ j q, (bv b)[j]? = some q → (w.alloc (.cells #[x, y, z, u] t)).cell? ((⟨w.heap.size, 0, none⟩ : Addr).add j) = some q := by
 rw [← hx]
 intro j q hj
 have hN := Blk.new w t #[x, y, z, u]
 have h := hN.cell j
 have e : (⟨w.heap.size, 0, none⟩ : Addr).add j = ⟨w.heap.size, j, none⟩ := by simp [Addr.add]; intro h; exact h.symm
 rw [e, h]
 simpa using hj

theorem Tryz.info_block : (Tryz.prog.info? 25).map (fun i => (i.zero, i.size, i.bytes)) = some (some (.agg #[.int .i64 0, .bool false, .int .i64 0, .string ByteArray.empty]), 4, 40) := by kernel_rfl

/-- 'out = append(out, b)' of one block, out the call's own: ONE goal is left. -/
theorem app_bl {P : Program} {w : World} {ops : Array Oper} {rest : List Oper} {o : Oper} {a : Act} {Q : Exit → Act → World → Prop} (hgd : o.guard = none) (s x : Operand) (t : TypeId)
  (ho : o.op = .call { callee := .builtin .append, args := #[s, x], argTypes := #[t, t] }) (B : Nat) (e : TypeId) (ht : P.underlying t = some (.slice e))
  (hinfo : (P.info? e).map (fun i => (i.zero, i.size, i.bytes)) = some (some (.agg #[.int .i64 0, .bool false, .int .i64 0, .string ByteArray.empty]), 4, 40)) (v : Value) (n : Nat) (l : List Bl) (hs : a.eval s = v) (hown : w.ownsRow B e 4 v n (bvs l)) (b : Bl) (X Y Z U : Value) (hX : [X, Y, Z, U] = bv b) (cp : Nat)
  (hx : a.eval x = .slice (some ⟨w.heap.size, 0, none⟩) 1 cp) (hn : n ≤ 1000000000) (hB : B ≤ w.heap.size)
  (h : ∀ v' w', w'.ownsRow B e 4 v' (n + 1) (bvs (l ++ [b])) → Below B w w' → w.grownBy w' v.ownBlock → wpList P ops Q rest (a.put o.dst v') w') : wpList P ops Q (o :: rest) a (w.alloc (.cells #[X, Y, Z, U] e)) := by
 obtain ⟨i0, hi, hz0, hz1, hz2⟩ := info_parts hinfo
 refine wpList_append_own _ hgd s x t ho B e i0 (.agg #[.int .i64 0, .bool false, .int .i64 0, .string ByteArray.empty]) 4 40 ht hi hz0 hz1 hz2 rfl (by decide) v n (bvs l) hs (hown.alloc _) ⟨w.heap.size, 0, none⟩ 1 cp (bv b) hx rfl (bl_new w _ _ _ _ e b hX) ?_ ?_ (by omega) ?_ ?_
 ·intro u hu; simp [bv] at hu; rcases hu with rfl | rfl | rfl | rfl <;> rfl
 ·unfold maxLen; omega
 ·have := World.size_alloc w (.cells #[X, Y, Z, U] e); omega
 ·intro v' w' hown' hg _
  have hg2 : w.grownBy w' v.ownBlock := grown_trans (World.grownBy_alloc w _ _) hg
  refine h v' w' ?_ (below_of_grown hg2 hB (fun g hg => (hown.lt g hg).1)) hg2
  rw [bvs_append, show bvs [b] = bv b from by simp [bvs]]; exact hown'
end

section
open Go.ChangeShapes Go.WideShapes Go.ChangeAt Go.RowKit Go.Joins
set_option linter.unusedVariables false
set_option linter.unusedSimpArgs false

theorem bv_one (b : Bl) : ∀ u ∈ bv b, u.oneCell' = true := by
 intro u hu; simp [bv] at hu; rcases hu with rfl | rfl | rfl | rfl <;> rfl

/-- 'append(out, b)' of one block that lies at the beginning of a block of memory -/
theorem step_bl {P : Program} {w : World} {ops : Array Oper} {o : Oper} {a : Act} {K : Act → World → Prop} {Q : Exit → Act → World → Prop} {E : Prop} (hgd : o.guard = none) (s x : Operand) (t : TypeId)
  (ho : o.op = .call { callee := .builtin .append, args := #[s, x], argTypes := #[t, t] }) (B : Nat) (e : TypeId) (ht : P.underlying t = some (.slice e))
  (hinfo : (P.info? e).map (fun i => (i.zero, i.size, i.bytes)) = some (some (.agg #[.int .i64 0, .bool false, .int .i64 0, .string ByteArray.empty]), 4, 40)) (v : Value) (n : Nat) (l : List Bl) (hs : a.eval s = v) (hown : w.ownsRow B e 4 v n (bvs l)) (b : Bl) (g cp : Nat) (T : TypeId) (X Y Z U : Value) (hg : Blk w g T #[X, Y, Z, U]) (hX : [X, Y, Z, U] = bv b)
  (hx : a.eval x = .slice (some ⟨g, 0, none⟩) 1 cp) (hn : n ≤ 1000000000) (hB : B ≤ w.heap.size)
  (h : ∀ v' w', w'.ownsRow B e 4 v' (n + 1) (bvs (l ++ [b])) → Below B w w' → w.grownBy w' v.ownBlock → K (a.put o.dst v') w') : if Region.wanted o (yielded ops a.tmps) = true then Oper.wp P o a w K Q else E := by
 have hw : Region.wanted o (yielded ops a.tmps) = true := by simp [Region.wanted, hgd]
 rw [if_pos hw]
 obtain ⟨i0, hi, hz0, hz1, hz2⟩ := info_parts hinfo
 refine wp_append_own w s x t ho B e i0 (.agg #[.int .i64 0, .bool false, .int .i64 0, .string ByteArray.empty]) 4 40 ht hi hz0 hz1 hz2 rfl (by decide) v n (bvs l) hs hown ⟨g, 0, none⟩ 1 cp (bv b) hx rfl ?_ (bv_one b) ?_ (by omega) hB ?_
 ·intro j u hj
  have e2 : ((⟨g, 0, none⟩ : Addr).add j) = ⟨g, j, none⟩ := by simp [Addr.add]; intro h; exact h.symm
  rw [e2, hg.cell j]
  rw [← hX] at hj
  simpa using hj
 ·unfold maxLen; omega
 ·intro v' w' hown' hg' _
  exact h v' w' (by rw [bvs_append, show bvs [b] = bv b from by simp [bvs]]; exact hown') (below_of_grown hg' hB (fun g hg => (hown.lt g hg).1)) hg'

theorem pv_one (p : Pr) : ∀ u ∈ pv p, u.oneCell' = true := by
 intro u hu; simp [pv] at hu; rcases hu with rfl | rfl <;> rfl

theorem step_pl {P : Program} {w : World} {ops : Array Oper} {o : Oper} {a : Act} {K : Act → World → Prop} {Q : Exit → Act → World → Prop} {E : Prop} (hgd : o.guard = none) (s x : Operand) (t : TypeId)
  (ho : o.op = .call { callee := .builtin .append, args := #[s, x], argTypes := #[t, t] }) (B : Nat) (e : TypeId) (ht : P.underlying t = some (.slice e))
  (hinfo : (P.info? e).map (fun i => (i.zero, i.size, i.bytes)) = some (some (.agg #[.int .i64 0, .int .i64 0]), 2, 16)) (v : Value) (n : Nat) (l : List Pr) (hs : a.eval s = v) (hown : w.ownsRow B e 2 v n (prs l)) (p : Pr) (g cp : Nat) (T : TypeId) (X Y : Value) (hg : Blk w g T #[X, Y]) (hX : [X, Y] = pv p)
  (hx : a.eval x = .slice (some ⟨g, 0, none⟩) 1 cp) (hn : n ≤ 1000000000) (hB : B ≤ w.heap.size)
  (h : ∀ v' w', w'.ownsRow B e 2 v' (n + 1) (prs (l ++ [p])) → Below B w w' → w.grownBy w' v.ownBlock → K (a.put o.dst v') w') : if Region.wanted o (yielded ops a.tmps) = true then Oper.wp P o a w K Q else E := by
 have hw : Region.wanted o (yielded ops a.tmps) = true := by simp [Region.wanted, hgd]
 rw [if_pos hw]
 obtain ⟨i0, hi, hz0, hz1, hz2⟩ := info_parts hinfo
 refine wp_append_own w s x t ho B e i0 (.agg #[.int .i64 0, .int .i64 0]) 2 16 ht hi hz0 hz1 hz2 rfl (by decide) v n (prs l) hs hown ⟨g, 0, none⟩ 1 cp (pv p) hx rfl ?_ (pv_one p) ?_ (by omega) hB ?_
 ·intro j u hj
  have e2 : ((⟨g, 0, none⟩ : Addr).add j) = ⟨g, j, none⟩ := by simp [Addr.add]; intro h; exact h.symm
  rw [e2, hg.cell j]
  rw [← hX] at hj
  simpa using hj
 ·unfold maxLen; omega
 ·intro v' w' hown' hg' _
  exact h v' w' (by rw [prs_append, show prs [p] = pv p from by simp [prs]]; exact hown') (below_of_grown hg' hB (fun g hg => (hown.lt g hg).1)) hg'

theorem Tryz.info_placeD : (Tryz.prog.info? 80).map (fun i => (i.zero, i.size, i.bytes)) = some (some (.agg #[.int .i64 0, .int .i64 0]), 2, 16) := by kernel_rfl

/-- the block of an owned row bears the row's element type -/
theorem own_type {w : World} {B : Nat} {e : TypeId} {size n : Nat} {v : Value} {xs : List Value} (h : w.ownsRow B e size v n xs) (g : Nat) (hg : v.ownBlock = some g) : ∃ cs, w.heap[g]? = some (.cells cs e (0, 0)) := by
 rcases h.2 with ⟨rfl, _⟩ | ⟨g', cap', cur, rfl, _, hh, _⟩
 ·simp [Value.ownBlock] at hg
 ·simp [Value.ownBlock] at hg; subst hg; exact ⟨cur, hh⟩

/-- a box of another type is not a row's block -/
theorem own_away {w : World} {B : Nat} {e t : TypeId} {size n : Nat} {v : Value} {xs : List Value} (h : w.ownsRow B e size v n xs) {c : Nat} {cs : Array Value} (hc : Blk w c t cs) (ht : t ≠ e) : some c ≠ v.ownBlock := fun h1 => by
 obtain ⟨cs', h2⟩ := own_type h c h1.symm
 have h3 : w.heap[c]? = some (.cells cs t (0, 0)) := hc
 rw [h2] at h3
 simp at h3
 exact ht h3.2.symm

/-- two rows of different element types have different blocks -/
theorem own_two {w : World} {B B' : Nat} {e e' : TypeId} {size size' n n' : Nat} {v v' : Value} {xs xs' : List Value} (h : w.ownsRow B e size v n xs) (h' : w.ownsRow B' e' size' v' n' xs') (he : e ≠ e') : ∀ g, v.ownBlock = some g → v'.ownBlock ≠ some g := fun g h1 h2 => by
 obtain ⟨cs, h3⟩ := own_type h g h1
 obtain ⟨cs', h4⟩ := own_type h' g h2
 rw [h3] at h4
 simp at h4
 exact he h4.2

theorem Blk.grownR {w w' : World} {c : Nat} {t : TypeId} {cs : Array Value} {row : Option Nat} (hc : Blk w c t cs) (hg : w.grownBy w' row) (hne : some c ≠ row) : Blk w' c t cs := (hg.block c hc.lt (fun h => hne h)).trans hc

theorem own_grownR {w w' : World} {B : Nat} {e : TypeId} {size n : Nat} {v : Value} {xs : List Value} {row : Option Nat} (h : w.ownsRow B e size v n xs) (hg : w.grownBy w' row) (hne : ∀ g, v.ownBlock = some g → row ≠ some g) : w'.ownsRow B e size v n xs :=
 h.kept hg (by
  cases hv : v.ownBlock with
  | none => exact .inl rfl
  | some g => exact .inr (fun h => hne g hv h.symm))
end

section
open Go.ChangeShapes Go.WideShapes Go.ChangeAt Go.RowKit Go.Joins
set_option linter.unusedVariables false
set_option linter.unusedSimpArgs false

theorem idx_text {P : Program} {t : TypeId} (ht : P.underlying t = some .string) (s : ByteArray) (n : Nat) (h : n < s.size) (w : World) :
  (Instr.index t (.string s) (.int .i64 (n : Int))).run P w = .ok (.int .u8 ((s[n]).toNat : Int)) w := by
 have e := run_index_string (P := P) (w := w) t s .i64 (n : Int) ht
 rw [dif_pos (by omega)] at e
 exact e

def pairOf (m : List UInt8) : Nat := 256 * (m.getD 0 0).toNat + (m.getD 1 0).toNat

set_option maxRecDepth 100000 in
theorem c_l5PairB (m : List UInt8) (w : World) (h : m.length = 2) : Calls Tryz.prog 107 #[.string (str m)] w fun e w' => e = .returned (.int .i64 (pairOf m : Int)) ∧ Below w.heap.size w w' := by
 obtain ⟨a, b, rfl⟩ : ∃ a b, m = [a, b] := by
  match m, h with
  | [a, b], _ => exact ⟨a, b, rfl⟩
 obtain ⟨M, hM⟩ : ∃ M, M = str [a, b] := ⟨_, rfl⟩
 have hz : M.size = 2 := by rw [hM]; rfl
 have i0 : ∀ W, (Instr.index 9 (.string M) (.int .i64 0)).run Tryz.prog W = .ok (.int .u8 (a.toNat : Int)) W := fun W => by
  have := idx_text (P := Tryz.prog) Tryz.underlying9 M 0 (by omega) W
  exact this.trans (by subst hM; rfl)
 have i1 : ∀ W, (Instr.index 9 (.string M) (.int .i64 1)).run Tryz.prog W = .ok (.int .u8 (b.toNat : Int)) W := fun W => by
  have := idx_text (P := Tryz.prog) Tryz.underlying9 M 1 (by omega) W
  exact this.trans (by subst hM; rfl)
 have ha := UInt8.toNat_lt a
 have hb := UInt8.toNat_lt b
 have HR := hid (show ((pairOf [a, b] : Nat) : Int) = 256 * (a.toNat : Int) + (b.toNat : Int) by simp [pairOf])
 rw [← hM]
 clear hM
 have w1 : IntKind.i64.wrap (256 * (a.toNat : Int)) = 256 * (a.toNat : Int) := by rw [IntWalk.i64_in _ (by omega)]
 have w2 : IntKind.i64.wrap (256 * (a.toNat : Int) + (b.toNat : Int)) = 256 * (a.toNat : Int) + (b.toNat : Int) := by rw [IntWalk.i64_in _ (by omega)]
 go_enter Tryz.func107, Tryz.ntmps107
 go_wp2
 go_quiet (fail)
 go_wp2
 go_ret
 exact ⟨ret_int (by rw [HR.out]), by exact obB⟩

/-- what the model's ParseBlock gives where there is no block -/
def noPb : Value := .tuple #[.agg #[.int .i64 0, .bool false, .int .i64 0, .string ByteArray.empty], .int .i64 0, .bool false]
/-- the bytes of T from i on, n of them -/
def sub (T : List UInt8) (i n : Nat) : List UInt8 := (T.drop i).take n
theorem sub_two (T : List UInt8) (i : Nat) (h : i + 2 ≤ T.length) : (sub T i 2).length = 2 ∧ pairOf (sub T i 2) = pat2 T i := by
 refine ⟨by simp [sub]; omega, ?_⟩
 simp only [pairOf, sub, pat2, bat, List.getD_eq_getElem?_getD, List.getElem?_take, List.getElem?_drop]
 simp
theorem ext_sub (S : ByteArray) (A : Nat) (T : List UInt8) (hT : T = S.data.toList.drop A) (i n : Nat) : S.extract (A + i) (A + i + n) = str (sub T i n) := by
 apply ByteArray.ext
 apply Array.toList_inj.1
 rw [str_list, ByteArray.data_extract, Array.toList_extract, List.extract, hT, sub, List.drop_drop]
 congr 1
 omega
theorem slc {P : Program} {t : TypeId} (ht : P.underlying t = some .string) (S : ByteArray) (A : Nat) (T : List UInt8) (hT : T = S.data.toList.drop A) (i n : Nat) (x y : Int) (hx : x = (A : Int) + i) (hy : y = (A : Int) + i + n) (h : A + i + n ≤ S.size) (w : World) :
  (Instr.slice t (.string S) (some (.int .i64 x)) (some (.int .i64 y)) none).run P w = .ok (.string (str (sub T i n))) w := by
 subst hx hy
 rw [run_slice_string w t S .i64 .i64 _ _ ht (by omega) (by omega) (by omega), show ((A : Int) + i).toNat = A + i by omega, show ((A : Int) + i + n).toNat = A + i + n by omega, ext_sub S A T hT]
theorem ix {P : Program} {t : TypeId} (ht : P.underlying t = some .string) (S : ByteArray) (A : Nat) (T : List UInt8) (hT : T = S.data.toList.drop A) (i : Nat) (x : Int) (hx : x = (A : Int) + i) (h : A + i < S.size) (w : World) :
  (Instr.index t (.string S) (.int .i64 x)).run P w = .ok (.int .u8 ((bat T i : Nat) : Int)) w := by
 subst hx
 have := idx_text (P := P) ht S (A + i) h w
 rw [show ((A + i : Nat) : Int) = (A : Int) + i by omega] at this
 rw [this, bat, hT]
 congr 3
 rw [List.getD_eq_getElem?_getD, List.getElem?_drop, List.getElem?_eq_getElem (by simpa using h)]
 rfl
theorem pb_hd {T : List UInt8} (h0 : bat T 0 = 181) (h1 : bat T 1 ≤ 1) (hl : 10 + pat2 T 6 ≤ T.length) (hk : (brd T).ok) : hdOk T := by
 have hs := brd_size T hl
 obtain ⟨⟨a1, a2⟩, ⟨b1, b2⟩, h3, h4⟩ := hk
 have hn : (brd T).n = ((pat2 T 2 : Nat) : Int) := rfl
 have hz : (brd T).z = ((pat2 T 4 : Nat) : Int) := rfl
 rw [hn] at a1 a2
 rw [hz] at b1 b2 h3 h4
 rw [hs] at h3 h4
 refine ⟨by omega, h0, h1, by omega, by omega, ?_⟩
 cases hr : (brd T).raw with
 | true => have := h3 hr; omega
 | false => have := h4 hr; omega

set_option maxHeartbeats 8000000 in
set_option maxRecDepth 100000 in
theorem c_ParseBlock_n1 (S : ByteArray) (A : Nat) (T : List UInt8) (w : World) (hS : S.size ≤ 1000000000000) (hA : A ≤ S.size) (hT : T = S.data.toList.drop A) (h : T.length < 10) : Calls Tryz.prog 71 #[.string S, .int .i64 (A : Int)] w fun e w' => e = .returned noPb ∧ Below w.heap.size w w' := by
 have hTl : T.length = S.size - A := by rw [hT, List.length_drop]; simp
 have d1 : decide ((A : Int) < 0) = false := decide_eq_false (by omega)
 have d2 : decide ((S.size : Int) < (A : Int)) = false := decide_eq_false (by omega)
 have d3 : decide ((S.size : Int) - (A : Int) < 10) = true := decide_eq_true (by omega)
 have HR := hid (Blk.new w 25 #[.int .i64 0, .bool false, .int .i64 0, .string ByteArray.empty])
 have HB := hid (bel_alloc (Below.refl _ w) (.cells #[.int .i64 0, .bool false, .int .i64 0, .string ByteArray.empty] 25))
 obtain ⟨rb, hrb⟩ : ∃ rb, rb = w.heap.size := ⟨_, rfl⟩
 have HLo := hid (show w.heap.size ≤ rb by omega)
 rw [← hrb] at HR
 obtain ⟨r0, r1, r2, r3⟩ := HR.out.cells4y
 have rf0 := HR.out.frozen 0
 have rf1 := HR.out.frozen 1
 have rf2 := HR.out.frozen 2
 have rf3 := HR.out.frozen 3
 clear hT hTl
 go_enter Tryz.func71, Tryz.ntmps71
 go_wp2_with fail
 obtain ⟨Wz, hWz⟩ : ∃ Wz, Wz = w.alloc (.cells #[.int .i64 0, .bool false, .int .i64 0, .string ByteArray.empty] 25) := ⟨_, rfl⟩
 have HZ : Blk Wz w.heap.size 25 #[.int .i64 0, .bool false, .int .i64 0, .string ByteArray.empty] := by rw [hWz]; exact Blk.new w _ _
 have HBz : Below w.heap.size w Wz := by rw [hWz]; exact HB.out
 rw [show w.alloc (.cells #[.int .i64 0, .bool false, .int .i64 0, .string { data := #[] }] 25) = Wz from hWz.symm]
 obtain ⟨z0, z1, z2, z3⟩ := HZ.cells4y
 clear hWz
 exact bodyPost_ret (v := noPb) (by simp [results, Tryz.results71, go_sem, z0, z1, z2, z3, noPb]) rfl ⟨rfl, HBz⟩

set_option maxHeartbeats 8000000 in
set_option maxRecDepth 100000 in
theorem c_ParseBlock_n2 (S : ByteArray) (A : Nat) (T : List UInt8) (w : World) (hS : S.size ≤ 1000000000000) (hA : A ≤ S.size) (hT : T = S.data.toList.drop A) (h : 10 ≤ T.length) (h0 : bat T 0 ≠ 181) : Calls Tryz.prog 71 #[.string S, .int .i64 (A : Int)] w fun e w' => e = .returned noPb ∧ Below w.heap.size w w' := by
 have hTl : T.length = S.size - A := by rw [hT, List.length_drop]; simp
 have d1 : decide ((A : Int) < 0) = false := decide_eq_false (by omega)
 have d2 : decide ((S.size : Int) < (A : Int)) = false := decide_eq_false (by omega)
 have d3 : decide ((S.size : Int) - (A : Int) < 10) = false := decide_eq_false (by omega)
 have i0 : ∀ W, (Instr.index 9 (.string S) (.int .i64 (A : Int))).run Tryz.prog W = .ok (.int .u8 ((bat T 0 : Nat) : Int)) W := fun W => ix Tryz.underlying9 S A T hT 0 _ (by omega) (by omega) W
 have i1 : ∀ W, (Instr.index 9 (.string S) (.int .i64 ((A : Int) + 1))).run Tryz.prog W = .ok (.int .u8 ((bat T 1 : Nat) : Int)) W := fun W => ix Tryz.underlying9 S A T hT 1 _ (by omega) (by omega) W
 have d4 : (((bat T 0 : Nat) : Int) != 181) = true := by rw [bne_iff_ne]; omega
 clear h0
 have HR := hid (Blk.new w 25 #[.int .i64 0, .bool false, .int .i64 0, .string ByteArray.empty])
 have HB := hid (bel_alloc (Below.refl _ w) (.cells #[.int .i64 0, .bool false, .int .i64 0, .string ByteArray.empty] 25))
 obtain ⟨rb, hrb⟩ : ∃ rb, rb = w.heap.size := ⟨_, rfl⟩
 have HLo := hid (show w.heap.size ≤ rb by omega)
 rw [← hrb] at HR
 obtain ⟨r0, r1, r2, r3⟩ := HR.out.cells4y
 have rf0 := HR.out.frozen 0
 have rf1 := HR.out.frozen 1
 have rf2 := HR.out.frozen 2
 have rf3 := HR.out.frozen 3
 clear hT hTl
 go_enter Tryz.func71, Tryz.ntmps71
 go_wp2_with fail
 obtain ⟨Wz, hWz⟩ : ∃ Wz, Wz = w.alloc (.cells #[.int .i64 0, .bool false, .int .i64 0, .string ByteArray.empty] 25) := ⟨_, rfl⟩
 have HZ : Blk Wz w.heap.size 25 #[.int .i64 0, .bool false, .int .i64 0, .string ByteArray.empty] := by rw [hWz]; exact Blk.new w _ _
 have HBz : Below w.heap.size w Wz := by rw [hWz]; exact HB.out
 rw [show w.alloc (.cells #[.int .i64 0, .bool false, .int .i64 0, .string { data := #[] }] 25) = Wz from hWz.symm]
 obtain ⟨z0, z1, z2, z3⟩ := HZ.cells4y
 clear hWz
 exact bodyPost_ret (v := noPb) (by simp [results, Tryz.results71, go_sem, z0, z1, z2, z3, noPb]) rfl ⟨rfl, HBz⟩

set_option maxHeartbeats 8000000 in
set_option maxRecDepth 100000 in
theorem c_ParseBlock_n3 (S : ByteArray) (A : Nat) (T : List UInt8) (w : World) (hS : S.size ≤ 1000000000000) (hA : A ≤ S.size) (hT : T = S.data.toList.drop A) (h : 10 ≤ T.length) (h0 : bat T 0 = 181) (h1 : 1 < bat T 1) : Calls Tryz.prog 71 #[.string S, .int .i64 (A : Int)] w fun e w' => e = .returned noPb ∧ Below w.heap.size w w' := by
 have hTl : T.length = S.size - A := by rw [hT, List.length_drop]; simp
 have d1 : decide ((A : Int) < 0) = false := decide_eq_false (by omega)
 have d2 : decide ((S.size : Int) < (A : Int)) = false := decide_eq_false (by omega)
 have d3 : decide ((S.size : Int) - (A : Int) < 10) = false := decide_eq_false (by omega)
 have i0 : ∀ W, (Instr.index 9 (.string S) (.int .i64 (A : Int))).run Tryz.prog W = .ok (.int .u8 ((bat T 0 : Nat) : Int)) W := fun W => ix Tryz.underlying9 S A T hT 0 _ (by omega) (by omega) W
 have i1 : ∀ W, (Instr.index 9 (.string S) (.int .i64 ((A : Int) + 1))).run Tryz.prog W = .ok (.int .u8 ((bat T 1 : Nat) : Int)) W := fun W => ix Tryz.underlying9 S A T hT 1 _ (by omega) (by omega) W
 rw [h0] at i0
 have d5 : decide ((1 : Int) < ((bat T 1 : Nat) : Int)) = true := decide_eq_true (by omega)
 have HR := hid (Blk.new w 25 #[.int .i64 0, .bool false, .int .i64 0, .string ByteArray.empty])
 have HB := hid (bel_alloc (Below.refl _ w) (.cells #[.int .i64 0, .bool false, .int .i64 0, .string ByteArray.empty] 25))
 obtain ⟨rb, hrb⟩ : ∃ rb, rb = w.heap.size := ⟨_, rfl⟩
 have HLo := hid (show w.heap.size ≤ rb by omega)
 rw [← hrb] at HR
 obtain ⟨r0, r1, r2, r3⟩ := HR.out.cells4y
 have rf0 := HR.out.frozen 0
 have rf1 := HR.out.frozen 1
 have rf2 := HR.out.frozen 2
 have rf3 := HR.out.frozen 3
 clear hT hTl
 go_enter Tryz.func71, Tryz.ntmps71
 go_wp2_with fail
 obtain ⟨Wz, hWz⟩ : ∃ Wz, Wz = w.alloc (.cells #[.int .i64 0, .bool false, .int .i64 0, .string ByteArray.empty] 25) := ⟨_, rfl⟩
 have HZ : Blk Wz w.heap.size 25 #[.int .i64 0, .bool false, .int .i64 0, .string ByteArray.empty] := by rw [hWz]; exact Blk.new w _ _
 have HBz : Below w.heap.size w Wz := by rw [hWz]; exact HB.out
 rw [show w.alloc (.cells #[.int .i64 0, .bool false, .int .i64 0, .string { data := #[] }] 25) = Wz from hWz.symm]
 obtain ⟨z0, z1, z2, z3⟩ := HZ.cells4y
 clear hWz
 exact bodyPost_ret (v := noPb) (by simp [results, Tryz.results71, go_sem, z0, z1, z2, z3, noPb]) rfl ⟨rfl, HBz⟩

set_option maxHeartbeats 8000000 in
set_option maxRecDepth 100000 in
theorem c_ParseBlock_n4 (S : ByteArray) (A : Nat) (T : List UInt8) (w : World) (hS : S.size ≤ 1000000000000) (hA : A ≤ S.size) (hT : T = S.data.toList.drop A) (h : 10 ≤ T.length) (h0 : bat T 0 = 181) (h1 : bat T 1 ≤ 1) (h6 : T.length < 10 + pat2 T 6) : Calls Tryz.prog 71 #[.string S, .int .i64 (A : Int)] w fun e w' => e = .returned noPb ∧ Below w.heap.size w w' := by
 have hTl : T.length = S.size - A := by rw [hT, List.length_drop]; simp
 have d1 : decide ((A : Int) < 0) = false := decide_eq_false (by omega)
 have d2 : decide ((S.size : Int) < (A : Int)) = false := decide_eq_false (by omega)
 have d3 : decide ((S.size : Int) - (A : Int) < 10) = false := decide_eq_false (by omega)
 have i0 : ∀ W, (Instr.index 9 (.string S) (.int .i64 (A : Int))).run Tryz.prog W = .ok (.int .u8 ((bat T 0 : Nat) : Int)) W := fun W => ix Tryz.underlying9 S A T hT 0 _ (by omega) (by omega) W
 have i1 : ∀ W, (Instr.index 9 (.string S) (.int .i64 ((A : Int) + 1))).run Tryz.prog W = .ok (.int .u8 ((bat T 1 : Nat) : Int)) W := fun W => ix Tryz.underlying9 S A T hT 1 _ (by omega) (by omega) W
 rw [h0] at i0
 have d5 : decide ((1 : Int) < ((bat T 1 : Nat) : Int)) = false := decide_eq_false (by omega)
 obtain ⟨X6, hX6⟩ : ∃ X, X = str (sub T 6 2) := ⟨_, rfl⟩
 have hs6 : ∀ W, (Instr.slice 9 (.string S) (some (.int .i64 ((A : Int) + 6))) (some (.int .i64 ((A : Int) + 8))) none).run Tryz.prog W = .ok (.string X6) W := fun W => by rw [hX6]; exact slc Tryz.underlying9 S A T hT 6 2 _ _ (by omega) (by omega) (by omega) W
 have HP6 := hid (show ∀ v, Calls Tryz.prog 107 #[.string X6] v fun e w' => e = .returned (.int .i64 ((pat2 T 6 : Nat) : Int)) ∧ Below v.heap.size v w' from fun v => by
  have := c_l5PairB (sub T 6 2) v (sub_two T 6 (by omega)).1
  rw [(sub_two T 6 (by omega)).2, ← hX6] at this; exact this)
 have hp6 : pat2 T 6 ≤ 65535 := by have := bat_lt T 6; have := bat_lt T (6 + 1); unfold pat2; omega
 have d6 : decide ((S.size : Int) - (A : Int) - 10 < ((pat2 T 6 : Nat) : Int)) = true := decide_eq_true (by omega)
 have HR := hid (Blk.new w 25 #[.int .i64 0, .bool false, .int .i64 0, .string ByteArray.empty])
 have HB := hid (bel_alloc (Below.refl _ w) (.cells #[.int .i64 0, .bool false, .int .i64 0, .string ByteArray.empty] 25))
 obtain ⟨rb, hrb⟩ : ∃ rb, rb = w.heap.size := ⟨_, rfl⟩
 have HLo := hid (show w.heap.size ≤ rb by omega)
 rw [← hrb] at HR
 obtain ⟨r0, r1, r2, r3⟩ := HR.out.cells4y
 have rf0 := HR.out.frozen 0
 have rf1 := HR.out.frozen 1
 have rf2 := HR.out.frozen 2
 have rf3 := HR.out.frozen 3
 clear hT hTl hX6
 go_enter Tryz.func71, Tryz.ntmps71
 go_wp2_with fail
 refine (HP6.out _).mono ?_
 rintro e w1 ⟨rfl, hb1⟩
 replace HR := hid (HR.out.on hb1)
 replace HB := hid (bel_trans HB.out hb1)
 clear hb1 r0 r1 r2 r3 rf0 rf1 rf2 rf3
 obtain ⟨r0, r1, r2, r3⟩ := HR.out.cells4y
 have rf0 := HR.out.frozen 0
 have rf1 := HR.out.frozen 1
 have rf2 := HR.out.frozen 2
 have rf3 := HR.out.frozen 3
 rw [← hrb]
 clear hrb
 go_wp2_with fail
 obtain ⟨Wz, hWz⟩ : ∃ Wz, Wz = ((((w1.setCell ⟨rb, 0, none⟩ (.int .i64 0)).setCell ⟨rb, 1, none⟩ (.bool false)).setCell ⟨rb, 2, none⟩ (.int .i64 0)).setCell ⟨rb, 3, none⟩ (.string ByteArray.empty)) := ⟨_, rfl⟩
 have HZ : Blk Wz rb 25 #[.int .i64 0, .bool false, .int .i64 0, .string ByteArray.empty] := by rw [hWz]; exact HR.out.put4y _ _ _ _
 have HBz : Below w.heap.size w Wz := by rw [hWz]; exact bel_set (bel_set (bel_set (bel_set HB.out HLo.out _) HLo.out _) HLo.out _) HLo.out _
 rw [show ((((w1.setCell ⟨rb, 0, none⟩ (.int .i64 0)).setCell ⟨rb, 1, none⟩ (.bool false)).setCell ⟨rb, 2, none⟩ (.int .i64 0)).setCell ⟨rb, 3, none⟩ (.string { data := #[] })) = Wz from hWz.symm]
 obtain ⟨z0, z1, z2, z3⟩ := HZ.cells4y
 clear hWz
 exact bodyPost_ret (v := noPb) (by simp [results, Tryz.results71, go_sem, z0, z1, z2, z3, noPb]) rfl ⟨rfl, HBz⟩
end

section
open Go.ChangeShapes Go.WideShapes Go.ChangeAt Go.RowKit Go.Joins
set_option linter.unusedVariables false
set_option linter.unusedSimpArgs false

theorem Fresh.learn {K : Act → World → Prop} {a : Act} {X : World} {cs : Array Value} {t : TypeId} (h : Blk (X.alloc (.cells cs t)) X.heap.size t cs → K a (X.alloc (.cells cs t))) : K a (X.alloc (.cells cs t)) := h (Blk.new X t cs)
theorem Fresh.learnd {K : Act → World → Prop} {a : Act} {X : World} {cs : Array Value} {t : TypeId} (h : Blk (X.alloc (.cells cs t)).drew X.heap.size t cs → K a (X.alloc (.cells cs t)).drew) : K a (X.alloc (.cells cs t)).drew := h (Blk.new X t cs).drew
theorem Fresh.nameA {K : Act → World → Prop} {a : Act} {X : World} {cs : Array Value} {t : TypeId} (h : ∀ V, Blk V X.heap.size t cs → V = X.alloc (.cells cs t) → K a V) : K a (X.alloc (.cells cs t)) := h _ (Blk.new X t cs) rfl
theorem Fresh.nameS {K : Act → World → Prop} {ac : Act} {X : World} {g : Nat} {t : TypeId} {a b c d x y z u : Value} (hN : Blk X g t #[a, b, c, d]) (h : ∀ V, Blk V g t #[x, y, z, u] → V = (((X.setCell ⟨g, 0, none⟩ x).setCell ⟨g, 1, none⟩ y).setCell ⟨g, 2, none⟩ z).setCell ⟨g, 3, none⟩ u → K ac V) : K ac ((((X.setCell ⟨g, 0, none⟩ x).setCell ⟨g, 1, none⟩ y).setCell ⟨g, 2, none⟩ z).setCell ⟨g, 3, none⟩ u) := h _ (hN.put4y x y z u) rfl
theorem s4_of {V : World} {g : Nat} {t : TypeId} {a b c d : Value} (h : Blk V g t #[a, b, c, d]) : V.cell? ⟨g, 0, none⟩ = some a ∧ V.cell? ⟨g, 1, none⟩ = some b ∧ V.cell? ⟨g, 2, none⟩ = some c ∧ V.cell? ⟨g, 3, none⟩ = some d ∧ Below V.heap.size V V := ⟨h.cell 0, h.cell 1, h.cell 2, h.cell 3, Below.refl _ V⟩
theorem s1_eqA {w1 X V : World} {a0 : Addr} {x0 : Value} {o : Obj} (hV : V = X.alloc o) (h : X.cell? a0 = some x0 ∧ Below w1.heap.size w1 X) : V.cell? a0 = some x0 ∧ Below w1.heap.size w1 V := by
 subst hV; exact s1_alloc h o
theorem s1_eqS {w1 X V : World} {rb g : Nat} {x0 x y z u : Value} (hV : V = (((X.setCell ⟨g, 0, none⟩ x).setCell ⟨g, 1, none⟩ y).setCell ⟨g, 2, none⟩ z).setCell ⟨g, 3, none⟩ u) (hr : rb < w1.heap.size) (hg : w1.heap.size ≤ g) (h : X.cell? ⟨rb, 0, none⟩ = some x0 ∧ Below w1.heap.size w1 X) : V.cell? ⟨rb, 0, none⟩ = some x0 ∧ Below w1.heap.size w1 V := by
 subst hV
 have hn : rb ≠ g := by omega
 refine ⟨?_, bel_set (bel_set (bel_set (bel_set h.2 hg _) hg _) hg _) hg _⟩
 exact (World.cell?_of_block (a := ⟨rb, 0, none⟩) (Below.heap_setCell _ ⟨g, 3, none⟩ u rb hn)).trans ((World.cell?_of_block (a := ⟨rb, 0, none⟩) (Below.heap_setCell _ ⟨g, 2, none⟩ z rb hn)).trans ((World.cell?_of_block (a := ⟨rb, 0, none⟩) (Below.heap_setCell _ ⟨g, 1, none⟩ y rb hn)).trans ((World.cell?_of_block (a := ⟨rb, 0, none⟩) (Below.heap_setCell _ ⟨g, 0, none⟩ x rb hn)).trans h.1)))

set_option maxHeartbeats 8000000 in
set_option maxRecDepth 100000 in
theorem c_ParseBlock_n5 (S : ByteArray) (A : Nat) (T : List UInt8) (w : World) (hS : S.size ≤ 1000000000000) (hA : A ≤ S.size) (hT : T = S.data.toList.drop A) (h : 10 ≤ T.length) (h0 : bat T 0 = 181) (h1 : bat T 1 ≤ 1) (h6 : 10 + pat2 T 6 ≤ T.length) (hk : ¬ (brd T).ok) : Calls Tryz.prog 71 #[.string S, .int .i64 (A : Int)] w fun e w' => e = .returned noPb ∧ Below w.heap.size w w' := by
 have hTl : T.length = S.size - A := by rw [hT, List.length_drop]; simp
 have d1 : decide ((A : Int) < 0) = false := decide_eq_false (by omega)
 have d2 : decide ((S.size : Int) < (A : Int)) = false := decide_eq_false (by omega)
 have d3 : decide ((S.size : Int) - (A : Int) < 10) = false := decide_eq_false (by omega)
 have i0 : ∀ W, (Instr.index 9 (.string S) (.int .i64 (A : Int))).run Tryz.prog W = .ok (.int .u8 ((bat T 0 : Nat) : Int)) W := fun W => ix Tryz.underlying9 S A T hT 0 _ (by omega) (by omega) W
 have i1 : ∀ W, (Instr.index 9 (.string S) (.int .i64 ((A : Int) + 1))).run Tryz.prog W = .ok (.int .u8 ((bat T 1 : Nat) : Int)) W := fun W => ix Tryz.underlying9 S A T hT 1 _ (by omega) (by omega) W
 rw [h0] at i0
 have d5 : decide ((1 : Int) < ((bat T 1 : Nat) : Int)) = false := decide_eq_false (by omega)
 obtain ⟨X6, hX6⟩ : ∃ X, X = str (sub T 6 2) := ⟨_, rfl⟩
 have hs6 : ∀ W, (Instr.slice 9 (.string S) (some (.int .i64 ((A : Int) + 6))) (some (.int .i64 ((A : Int) + 8))) none).run Tryz.prog W = .ok (.string X6) W := fun W => by rw [hX6]; exact slc Tryz.underlying9 S A T hT 6 2 _ _ (by omega) (by omega) (by omega) W
 have HP6 := hid (show ∀ v, Calls Tryz.prog 107 #[.string X6] v fun e w' => e = .returned (.int .i64 ((pat2 T 6 : Nat) : Int)) ∧ Below v.heap.size v w' from fun v => by
  have := c_l5PairB (sub T 6 2) v (sub_two T 6 (by omega)).1
  rw [(sub_two T 6 (by omega)).2, ← hX6] at this; exact this)
 have hp6 : pat2 T 6 ≤ 65535 := by have := bat_lt T 6; have := bat_lt T (6 + 1); unfold pat2; omega
 have d6 : decide ((S.size : Int) - (A : Int) - 10 < ((pat2 T 6 : Nat) : Int)) = false := decide_eq_false (by omega)
 obtain ⟨b, hb0⟩ : ∃ b : Bl, b = brd T := ⟨_, rfl⟩
 have hbs : b.body.size = pat2 T 6 := by rw [hb0]; exact brd_size T h6
 have hbn : ((pat2 T 2 : Nat) : Int) = b.n := by rw [hb0]; rfl
 have hbz : ((pat2 T 4 : Nat) : Int) = b.z := by rw [hb0]; rfl
 have hbr : ((((bat T 1 : Nat) : Int)) == 0) = b.raw := by
  rw [hb0]
  show _ = (bat T 1 == 0)
  rw [Bool.eq_iff_iff]
  simp
 have hbb : str (sub T 8 (pat2 T 6)) = b.body := by rw [hb0]; rfl
 have hbn2 : -9223372036854775808 ≤ b.n ∧ b.n ≤ 9223372036854775807 := by rw [← hbn]; have := bat_lt T 2; have := bat_lt T (2 + 1); unfold pat2; omega
 have hbz2 : -9223372036854775808 ≤ b.z ∧ b.z ≤ 9223372036854775807 := by rw [← hbz]; have := bat_lt T 4; have := bat_lt T (4 + 1); unfold pat2; omega
 have HV := hid (fun (v : World) => c_l5Form b v hbn2 hbz2 (by unfold maxLen; omega))
 obtain ⟨X2, hX2⟩ : ∃ X, X = str (sub T 2 2) := ⟨_, rfl⟩
 have hs2 : ∀ W, (Instr.slice 9 (.string S) (some (.int .i64 ((A : Int) + 2))) (some (.int .i64 ((A : Int) + 4))) none).run Tryz.prog W = .ok (.string X2) W := fun W => by rw [hX2]; exact slc Tryz.underlying9 S A T hT 2 2 _ _ (by omega) (by omega) (by omega) W
 have HP2 := hid (show ∀ v, Calls Tryz.prog 107 #[.string X2] v fun e w' => e = .returned (.int .i64 b.n) ∧ Below v.heap.size v w' from fun v => by
  have := c_l5PairB (sub T 2 2) v (sub_two T 2 (by omega)).1
  rw [(sub_two T 2 (by omega)).2, ← hX2, hbn] at this; exact this)
 obtain ⟨X4, hX4⟩ : ∃ X, X = str (sub T 4 2) := ⟨_, rfl⟩
 have hs4 : ∀ W, (Instr.slice 9 (.string S) (some (.int .i64 ((A : Int) + 4))) (some (.int .i64 ((A : Int) + 6))) none).run Tryz.prog W = .ok (.string X4) W := fun W => by rw [hX4]; exact slc Tryz.underlying9 S A T hT 4 2 _ _ (by omega) (by omega) (by omega) W
 have HP4 := hid (show ∀ v, Calls Tryz.prog 107 #[.string X4] v fun e w' => e = .returned (.int .i64 b.z) ∧ Below v.heap.size v w' from fun v => by
  have := c_l5PairB (sub T 4 2) v (sub_two T 4 (by omega)).1
  rw [(sub_two T 4 (by omega)).2, ← hX4, hbz] at this; exact this)
 have hs8 : ∀ W, (Instr.slice 9 (.string S) (some (.int .i64 ((A : Int) + 8))) (some (.int .i64 ((A : Int) + 8 + ((pat2 T 6 : Nat) : Int)))) none).run Tryz.prog W = .ok (.string b.body) W := fun W => by rw [← hbb]; exact slc Tryz.underlying9 S A T hT 8 (pat2 T 6) _ _ (by omega) (by omega) (by omega) W
 have wr1 : IntKind.i64.wrap ((A : Int) + 1) = (A : Int) + 1 := IntWalk.i64_in _ (by omega)
 have wr2 : IntKind.i64.wrap ((A : Int) + 2) = (A : Int) + 2 := IntWalk.i64_in _ (by omega)
 have wr4 : IntKind.i64.wrap ((A : Int) + 4) = (A : Int) + 4 := IntWalk.i64_in _ (by omega)
 have wr6 : IntKind.i64.wrap ((A : Int) + 6) = (A : Int) + 6 := IntWalk.i64_in _ (by omega)
 have wr8 : IntKind.i64.wrap ((A : Int) + 8) = (A : Int) + 8 := IntWalk.i64_in _ (by omega)
 have wr9 : IntKind.i64.wrap ((A : Int) + 8 + ((pat2 T 6 : Nat) : Int)) = (A : Int) + 8 + ((pat2 T 6 : Nat) : Int) := IntWalk.i64_in _ (by omega)
 rw [← hb0] at hk
 rw [decide_eq_false hk] at HV
 have HR := hid (Blk.new w 25 #[.int .i64 0, .bool false, .int .i64 0, .string ByteArray.empty])
 have HB := hid (bel_alloc (Below.refl _ w) (.cells #[.int .i64 0, .bool false, .int .i64 0, .string ByteArray.empty] 25))
 obtain ⟨rb, hrb⟩ : ∃ rb, rb = w.heap.size := ⟨_, rfl⟩
 have HLo := hid (show w.heap.size ≤ rb by omega)
 rw [← hrb] at HR
 obtain ⟨r0, r1, r2, r3⟩ := HR.out.cells4y
 have rf0 := HR.out.frozen 0
 have rf1 := HR.out.frozen 1
 have rf2 := HR.out.frozen 2
 have rf3 := HR.out.frozen 3
 clear hT hTl hX6 hX2 hX4 hbb hbn hbz hbn2 hbz2 hb0
 go_enter Tryz.func71, Tryz.ntmps71
 go_wp2_with fail
 refine (HP6.out _).mono ?_
 rintro e w1 ⟨rfl, hb1⟩
 replace HR := hid (HR.out.on hb1)
 replace HB := hid (bel_trans HB.out hb1)
 clear hb1 r0 r1 r2 r3 rf0 rf1 rf2 rf3
 obtain ⟨r0, r1, r2, r3⟩ := HR.out.cells4y
 have rf0 := HR.out.frozen 0
 have rf1 := HR.out.frozen 1
 have rf2 := HR.out.frozen 2
 have rf3 := HR.out.frozen 3
 rw [← hrb]
 clear hrb
 go_wp2_with fail
 have hltr : rb < w1.heap.size := HR.out.lt
 have hS1 : w1.cell? ⟨rb, 0, none⟩ = some (.int .i64 0) ∧ Below w1.heap.size w1 w1 := ⟨HR.out.cell 0, Below.refl _ _⟩
 refine wp_region_noPanic ?_
 refine wp_region_held_drew (S := (fun v => v.cell? ⟨rb, 0, none⟩ = some (.int .i64 0) ∧ Below w1.heap.size w1 v)) (by kernel_rfl) (s1_drew hS1) (fun hHeld => ?_)
 refine tk 0 ?_
 refine tk 1 ?_
 refine tk 2 ?_
 refine tk 3 ?_
 refine tk 4 ?_
 refine tk 5 ?_
 refine tk 7 ?_
 refine tk 8 ?_
 refine tk 9 ?_
 refine tk 10 ?_
 refine tk 11 ?_
 refine tk 12 ?_
 refine tk 13 ?_
 refine tk 14 ?_
 refine tk 15 ?_
 refine tk 16 ?_
 refine tk 17 ?_
 refine tk 19 ?_
 refine tk 20 ?_
 refine tk 21 ?_
 refine tk 22 ?_
 refine tk 23 ?_
 refine tk 24 ?_
 refine tk 25 ?_
 refine tk 26 ?_
 refine wpAnyH_ready (rs := [6, 28]) (by kernel_rfl) (by simp) ?_
 refine AllReadyH.cons (o := ?or1_6) ?ir1_6 (fun K hK => ?sr1_6) (AllReadyH.cons (o := ?or1_28) ?ir1_28 (fun K hK => ?sr1_28) AllReadyH.nil)
 case ir1_6 => (simp only [List.getElem?_toArray, List.getElem?_cons_succ, List.getElem?_cons_zero]; rfl)
 case ir1_28 => (simp only [List.getElem?_toArray, List.getElem?_cons_succ, List.getElem?_cons_zero]; rfl)
 case' sr1_6 =>
  (go_simp; (go_at_call 107; refine (HP2.out _).mono ?_; rintro e wK ⟨rfl, hbK⟩; (try have hN := hN.on hbK)))
  refine hK.out _ _ ?kr1_6 (fun hHeld => ?_)
  case kr1_6 => (try dsimp only); (first | with_reducible assumption | with_reducible exact s1_eqA hV (by assumption) | with_reducible exact s1_eqS hV hltr hgl (by assumption) | exact s1_bel (by assumption) (by assumption) | assumption | exact s1_alloc (by assumption) _ | exact s1_eqA hV (by assumption) | exact s1_eqS hV hltr hgl (by assumption))
  clear hK K
  try simp only [Act.put, List.setIfInBounds_toArray, List.set_cons_zero, List.set_cons_succ]
  refine wpAnyH_ready (rs := [18, 28]) (by kernel_rfl) (by simp) ?_
  refine AllReadyH.cons (o := ?or1b1_18) ?ir1b1_18 (fun K hK => ?sr1b1_18) (AllReadyH.cons (o := ?or1b1_28) ?ir1b1_28 (fun K hK => ?sr1b1_28) AllReadyH.nil)
  case ir1b1_18 => (simp only [List.getElem?_toArray, List.getElem?_cons_succ, List.getElem?_cons_zero]; rfl)
  case ir1b1_28 => (simp only [List.getElem?_toArray, List.getElem?_cons_succ, List.getElem?_cons_zero]; rfl)
  case' sr1b1_18 =>
   (go_simp; (go_at_call 107; refine (HP4.out _).mono ?_; rintro e wK ⟨rfl, hbK⟩; (try have hN := hN.on hbK)))
   refine hK.out _ _ ?kr1b1_18 (fun hHeld => ?_)
   case kr1b1_18 => (try dsimp only); (first | with_reducible assumption | with_reducible exact s1_eqA hV (by assumption) | with_reducible exact s1_eqS hV hltr hgl (by assumption) | exact s1_bel (by assumption) (by assumption) | assumption | exact s1_alloc (by assumption) _ | exact s1_eqA hV (by assumption) | exact s1_eqS hV hltr hgl (by assumption))
   clear hK K
   try simp only [Act.put, List.setIfInBounds_toArray, List.set_cons_zero, List.set_cons_succ]
   refine tk 27 ?_
   refine wpAnyH_ready (rs := [28]) (by kernel_rfl) (by simp) ?_
   refine AllReadyH.cons (o := ?or1b1b2_28) ?ir1b1b2_28 (fun K hK => ?sr1b1b2_28) AllReadyH.nil
   case ir1b1b2_28 => (simp only [List.getElem?_toArray, List.getElem?_cons_succ, List.getElem?_cons_zero]; rfl)
   ((have hgl := hHeld.2.size; go_simp; first | refine Fresh.learn (fun hN => ?_) | refine Fresh.learnd (fun hN => ?_)))
   refine hK.out _ _ ?kr1b1b2_28 (fun hHeld => ?_)
   case kr1b1b2_28 => (try dsimp only); (first | with_reducible assumption | with_reducible exact s1_eqA hV (by assumption) | with_reducible exact s1_eqS hV hltr hgl (by assumption) | exact s1_bel (by assumption) (by assumption) | assumption | exact s1_alloc (by assumption) _ | exact s1_eqA hV (by assumption) | exact s1_eqS hV hltr hgl (by assumption))
   clear hK K
   try simp only [Act.put, List.setIfInBounds_toArray, List.set_cons_zero, List.set_cons_succ]
   refine wpAnyH_ready (rs := [29]) (by kernel_rfl) (by simp) ?_
   refine AllReadyH.cons (o := ?or1b1b2_29) ?ir1b1b2_29 (fun K hK => ?sr1b1b2_29) AllReadyH.nil
   case ir1b1b2_29 => (simp only [List.getElem?_toArray, List.getElem?_cons_succ, List.getElem?_cons_zero]; rfl)
   ((have n0 := hN.cell 0; have n1 := hN.cell 1; have n2 := hN.cell 2; have n3 := hN.cell 3; have nf0 := hN.frozen 0; have nf1 := hN.frozen 1; have nf2 := hN.frozen 2; have nf3 := hN.frozen 3; go_simp; first | refine Fresh.nameA (fun V hBV hV => ?_) | refine Fresh.nameS hN (fun V hBV hV => ?_)))
   refine hK.out _ _ ?kr1b1b2_29 (fun hHeld => ?_)
   case kr1b1b2_29 => (try dsimp only); (first | with_reducible assumption | with_reducible exact s1_eqA hV (by assumption) | with_reducible exact s1_eqS hV hltr hgl (by assumption) | exact s1_bel (by assumption) (by assumption) | assumption | exact s1_alloc (by assumption) _ | exact s1_eqA hV (by assumption) | exact s1_eqS hV hltr hgl (by assumption))
   clear hK K
   try simp only [Act.put, List.setIfInBounds_toArray, List.set_cons_zero, List.set_cons_succ]
   refine wpAnyH_done (by kernel_rfl) ?_ _
   refine NoPanic.normal ?_
  case' sr1b1_28 =>
   ((have hgl := hHeld.2.size; go_simp; first | refine Fresh.learn (fun hN => ?_) | refine Fresh.learnd (fun hN => ?_)))
   refine hK.out _ _ ?kr1b1_28 (fun hHeld => ?_)
   case kr1b1_28 => (try dsimp only); (first | with_reducible assumption | with_reducible exact s1_eqA hV (by assumption) | with_reducible exact s1_eqS hV hltr hgl (by assumption) | exact s1_bel (by assumption) (by assumption) | assumption | exact s1_alloc (by assumption) _ | exact s1_eqA hV (by assumption) | exact s1_eqS hV hltr hgl (by assumption))
   clear hK K
   try simp only [Act.put, List.setIfInBounds_toArray, List.set_cons_zero, List.set_cons_succ]
   refine wpAnyH_ready (rs := [18]) (by kernel_rfl) (by simp) ?_
   refine AllReadyH.cons (o := ?or1b1b3_18) ?ir1b1b3_18 (fun K hK => ?sr1b1b3_18) AllReadyH.nil
   case ir1b1b3_18 => (simp only [List.getElem?_toArray, List.getElem?_cons_succ, List.getElem?_cons_zero]; rfl)
   (go_simp; (go_at_call 107; refine (HP4.out _).mono ?_; rintro e wK ⟨rfl, hbK⟩; (try have hN := hN.on hbK)))
   refine hK.out _ _ ?kr1b1b3_18 (fun hHeld => ?_)
   case kr1b1b3_18 => (try dsimp only); (first | with_reducible assumption | with_reducible exact s1_eqA hV (by assumption) | with_reducible exact s1_eqS hV hltr hgl (by assumption) | exact s1_bel (by assumption) (by assumption) | assumption | exact s1_alloc (by assumption) _ | exact s1_eqA hV (by assumption) | exact s1_eqS hV hltr hgl (by assumption))
   clear hK K
   try simp only [Act.put, List.setIfInBounds_toArray, List.set_cons_zero, List.set_cons_succ]
   refine tk 27 ?_
   refine wpAnyH_ready (rs := [29]) (by kernel_rfl) (by simp) ?_
   refine AllReadyH.cons (o := ?or1b1b3_29) ?ir1b1b3_29 (fun K hK => ?sr1b1b3_29) AllReadyH.nil
   case ir1b1b3_29 => (simp only [List.getElem?_toArray, List.getElem?_cons_succ, List.getElem?_cons_zero]; rfl)
   ((have n0 := hN.cell 0; have n1 := hN.cell 1; have n2 := hN.cell 2; have n3 := hN.cell 3; have nf0 := hN.frozen 0; have nf1 := hN.frozen 1; have nf2 := hN.frozen 2; have nf3 := hN.frozen 3; go_simp; first | refine Fresh.nameA (fun V hBV hV => ?_) | refine Fresh.nameS hN (fun V hBV hV => ?_)))
   refine hK.out _ _ ?kr1b1b3_29 (fun hHeld => ?_)
   case kr1b1b3_29 => (try dsimp only); (first | with_reducible assumption | with_reducible exact s1_eqA hV (by assumption) | with_reducible exact s1_eqS hV hltr hgl (by assumption) | exact s1_bel (by assumption) (by assumption) | assumption | exact s1_alloc (by assumption) _ | exact s1_eqA hV (by assumption) | exact s1_eqS hV hltr hgl (by assumption))
   clear hK K
   try simp only [Act.put, List.setIfInBounds_toArray, List.set_cons_zero, List.set_cons_succ]
   refine wpAnyH_done (by kernel_rfl) ?_ _
   refine NoPanic.normal ?_
 case' sr1_28 =>
  ((have hgl := hHeld.2.size; go_simp; first | refine Fresh.learn (fun hN => ?_) | refine Fresh.learnd (fun hN => ?_)))
  refine hK.out _ _ ?kr1_28 (fun hHeld => ?_)
  case kr1_28 => (try dsimp only); (first | with_reducible assumption | with_reducible exact s1_eqA hV (by assumption) | with_reducible exact s1_eqS hV hltr hgl (by assumption) | exact s1_bel (by assumption) (by assumption) | assumption | exact s1_alloc (by assumption) _ | exact s1_eqA hV (by assumption) | exact s1_eqS hV hltr hgl (by assumption))
  clear hK K
  try simp only [Act.put, List.setIfInBounds_toArray, List.set_cons_zero, List.set_cons_succ]
  refine wpAnyH_ready (rs := [6]) (by kernel_rfl) (by simp) ?_
  refine AllReadyH.cons (o := ?or1b4_6) ?ir1b4_6 (fun K hK => ?sr1b4_6) AllReadyH.nil
  case ir1b4_6 => (simp only [List.getElem?_toArray, List.getElem?_cons_succ, List.getElem?_cons_zero]; rfl)
  (go_simp; (go_at_call 107; refine (HP2.out _).mono ?_; rintro e wK ⟨rfl, hbK⟩; (try have hN := hN.on hbK)))
  refine hK.out _ _ ?kr1b4_6 (fun hHeld => ?_)
  case kr1b4_6 => (try dsimp only); (first | with_reducible assumption | with_reducible exact s1_eqA hV (by assumption) | with_reducible exact s1_eqS hV hltr hgl (by assumption) | exact s1_bel (by assumption) (by assumption) | assumption | exact s1_alloc (by assumption) _ | exact s1_eqA hV (by assumption) | exact s1_eqS hV hltr hgl (by assumption))
  clear hK K
  try simp only [Act.put, List.setIfInBounds_toArray, List.set_cons_zero, List.set_cons_succ]
  refine wpAnyH_ready (rs := [18]) (by kernel_rfl) (by simp) ?_
  refine AllReadyH.cons (o := ?or1b4_18) ?ir1b4_18 (fun K hK => ?sr1b4_18) AllReadyH.nil
  case ir1b4_18 => (simp only [List.getElem?_toArray, List.getElem?_cons_succ, List.getElem?_cons_zero]; rfl)
  (go_simp; (go_at_call 107; refine (HP4.out _).mono ?_; rintro e wK ⟨rfl, hbK⟩; (try have hN := hN.on hbK)))
  refine hK.out _ _ ?kr1b4_18 (fun hHeld => ?_)
  case kr1b4_18 => (try dsimp only); (first | with_reducible assumption | with_reducible exact s1_eqA hV (by assumption) | with_reducible exact s1_eqS hV hltr hgl (by assumption) | exact s1_bel (by assumption) (by assumption) | assumption | exact s1_alloc (by assumption) _ | exact s1_eqA hV (by assumption) | exact s1_eqS hV hltr hgl (by assumption))
  clear hK K
  try simp only [Act.put, List.setIfInBounds_toArray, List.set_cons_zero, List.set_cons_succ]
  refine tk 27 ?_
  refine wpAnyH_ready (rs := [29]) (by kernel_rfl) (by simp) ?_
  refine AllReadyH.cons (o := ?or1b4_29) ?ir1b4_29 (fun K hK => ?sr1b4_29) AllReadyH.nil
  case ir1b4_29 => (simp only [List.getElem?_toArray, List.getElem?_cons_succ, List.getElem?_cons_zero]; rfl)
  ((have n0 := hN.cell 0; have n1 := hN.cell 1; have n2 := hN.cell 2; have n3 := hN.cell 3; have nf0 := hN.frozen 0; have nf1 := hN.frozen 1; have nf2 := hN.frozen 2; have nf3 := hN.frozen 3; go_simp; first | refine Fresh.nameA (fun V hBV hV => ?_) | refine Fresh.nameS hN (fun V hBV hV => ?_)))
  refine hK.out _ _ ?kr1b4_29 (fun hHeld => ?_)
  case kr1b4_29 => (try dsimp only); (first | with_reducible assumption | with_reducible exact s1_eqA hV (by assumption) | with_reducible exact s1_eqS hV hltr hgl (by assumption) | exact s1_bel (by assumption) (by assumption) | assumption | exact s1_alloc (by assumption) _ | exact s1_eqA hV (by assumption) | exact s1_eqS hV hltr hgl (by assumption))
  clear hK K
  try simp only [Act.put, List.setIfInBounds_toArray, List.set_cons_zero, List.set_cons_succ]
  refine wpAnyH_done (by kernel_rfl) ?_ _
  refine NoPanic.normal ?_
 all_goals
  have KB := hid hBV
  have hbV := hHeld.2
  replace HR := hid (HR.out.on hbV)
  replace HB := hid (bel_trans HB.out hbV)
  have hS4 := s4_of hBV
  clear r0 r1 r2 r3 rf0 rf1 rf2 rf3 hS1 hltr hBV hV hHeld hbV
  go_wp2_with fail
  refine qB (S := (fun v => v.cell? ⟨_, 0, none⟩ = some (.int .i64 b.n) ∧ v.cell? ⟨_, 1, none⟩ = some (.bool b.raw) ∧ v.cell? ⟨_, 2, none⟩ = some (.int .i64 b.z) ∧ v.cell? ⟨_, 3, none⟩ = some (.string b.body) ∧ Below V.heap.size V v)) (by kernel_rfl) (by kernel_rfl) (s4_drew hS4) ?_
  refine qK ?_
  refine qC (fun wq hSq => HV.out wq) (fun wq wr hbr hSq => s4_bel hbr hSq) ?_
  refine qK ?_
  refine qK ?_
  refine qU ?_
  refine qU ?_
  refine qU ?_
  refine qU ?_
  refine qU ?_
  refine qU ?_
  refine qU ?_
  refine qK ?_
  refine qN ?_
  intro wq hSq
  (try dsimp only at hSq)
  have hbq := hSq.2.2.2.2
  replace HR := hid (HR.out.on hbq)
  replace KB := hid (KB.out.on hbq)
  replace HB := hid (bel_trans HB.out hbq)
  clear hSq hS4 hbq
  obtain ⟨r0, r1, r2, r3⟩ := HR.out.cells4y
  have rf0 := HR.out.frozen 0
  have rf1 := HR.out.frozen 1
  have rf2 := HR.out.frozen 2
  have rf3 := HR.out.frozen 3
  have hltr : rb < wq.heap.size := HR.out.lt
  go_wp2_with fail
  obtain ⟨Wz, hWz⟩ : ∃ Wz, Wz = ((((wq.setCell ⟨rb, 0, none⟩ (.int .i64 0)).setCell ⟨rb, 1, none⟩ (.bool false)).setCell ⟨rb, 2, none⟩ (.int .i64 0)).setCell ⟨rb, 3, none⟩ (.string ByteArray.empty)) := ⟨_, rfl⟩
  have HZ : Blk Wz rb 25 #[.int .i64 0, .bool false, .int .i64 0, .string ByteArray.empty] := by rw [hWz]; exact HR.out.put4y _ _ _ _
  have HBz : Below w.heap.size w Wz := by rw [hWz]; exact bel_set (bel_set (bel_set (bel_set HB.out HLo.out _) HLo.out _) HLo.out _) HLo.out _
  rw [show ((((wq.setCell ⟨rb, 0, none⟩ (.int .i64 0)).setCell ⟨rb, 1, none⟩ (.bool false)).setCell ⟨rb, 2, none⟩ (.int .i64 0)).setCell ⟨rb, 3, none⟩ (.string { data := #[] })) = Wz from hWz.symm]
  obtain ⟨z0, z1, z2, z3⟩ := HZ.cells4y
  clear hWz
  exact bodyPost_ret (v := noPb) (by simp [results, Tryz.results71, go_sem, z0, z1, z2, z3, noPb]) rfl ⟨rfl, HBz⟩

set_option maxHeartbeats 8000000 in
set_option maxRecDepth 100000 in
theorem c_ParseBlock_n6 (S : ByteArray) (A : Nat) (T : List UInt8) (w : World) (hS : S.size ≤ 1000000000000) (hA : A ≤ S.size) (hT : T = S.data.toList.drop A) (h : 10 ≤ T.length) (h0 : bat T 0 = 181) (h1 : bat T 1 ≤ 1) (h6 : 10 + pat2 T 6 ≤ T.length) (hk : (brd T).ok) (ht : (brd T).text ≠ T.take (10 + pat2 T 6)) : Calls Tryz.prog 71 #[.string S, .int .i64 (A : Int)] w fun e w' => e = .returned noPb ∧ Below w.heap.size w w' := by
 have hTl : T.length = S.size - A := by rw [hT, List.length_drop]; simp
 have d1 : decide ((A : Int) < 0) = false := decide_eq_false (by omega)
 have d2 : decide ((S.size : Int) < (A : Int)) = false := decide_eq_false (by omega)
 have d3 : decide ((S.size : Int) - (A : Int) < 10) = false := decide_eq_false (by omega)
 have i0 : ∀ W, (Instr.index 9 (.string S) (.int .i64 (A : Int))).run Tryz.prog W = .ok (.int .u8 ((bat T 0 : Nat) : Int)) W := fun W => ix Tryz.underlying9 S A T hT 0 _ (by omega) (by omega) W
 have i1 : ∀ W, (Instr.index 9 (.string S) (.int .i64 ((A : Int) + 1))).run Tryz.prog W = .ok (.int .u8 ((bat T 1 : Nat) : Int)) W := fun W => ix Tryz.underlying9 S A T hT 1 _ (by omega) (by omega) W
 rw [h0] at i0
 have d5 : decide ((1 : Int) < ((bat T 1 : Nat) : Int)) = false := decide_eq_false (by omega)
 obtain ⟨X6, hX6⟩ : ∃ X, X = str (sub T 6 2) := ⟨_, rfl⟩
 have hs6 : ∀ W, (Instr.slice 9 (.string S) (some (.int .i64 ((A : Int) + 6))) (some (.int .i64 ((A : Int) + 8))) none).run Tryz.prog W = .ok (.string X6) W := fun W => by rw [hX6]; exact slc Tryz.underlying9 S A T hT 6 2 _ _ (by omega) (by omega) (by omega) W
 have HP6 := hid (show ∀ v, Calls Tryz.prog 107 #[.string X6] v fun e w' => e = .returned (.int .i64 ((pat2 T 6 : Nat) : Int)) ∧ Below v.heap.size v w' from fun v => by
  have := c_l5PairB (sub T 6 2) v (sub_two T 6 (by omega)).1
  rw [(sub_two T 6 (by omega)).2, ← hX6] at this; exact this)
 have hp6 : pat2 T 6 ≤ 65535 := by have := bat_lt T 6; have := bat_lt T (6 + 1); unfold pat2; omega
 have d6 : decide ((S.size : Int) - (A : Int) - 10 < ((pat2 T 6 : Nat) : Int)) = false := decide_eq_false (by omega)
 obtain ⟨b, hb0⟩ : ∃ b : Bl, b = brd T := ⟨_, rfl⟩
 have hbs : b.body.size = pat2 T 6 := by rw [hb0]; exact brd_size T h6
 have hbn : ((pat2 T 2 : Nat) : Int) = b.n := by rw [hb0]; rfl
 have hbz : ((pat2 T 4 : Nat) : Int) = b.z := by rw [hb0]; rfl
 have hbr : ((((bat T 1 : Nat) : Int)) == 0) = b.raw := by
  rw [hb0]
  show _ = (bat T 1 == 0)
  rw [Bool.eq_iff_iff]
  simp
 have hbb : str (sub T 8 (pat2 T 6)) = b.body := by rw [hb0]; rfl
 have hbn2 : -9223372036854775808 ≤ b.n ∧ b.n ≤ 9223372036854775807 := by rw [← hbn]; have := bat_lt T 2; have := bat_lt T (2 + 1); unfold pat2; omega
 have hbz2 : -9223372036854775808 ≤ b.z ∧ b.z ≤ 9223372036854775807 := by rw [← hbz]; have := bat_lt T 4; have := bat_lt T (4 + 1); unfold pat2; omega
 have HV := hid (fun (v : World) => c_l5Form b v hbn2 hbz2 (by unfold maxLen; omega))
 obtain ⟨X2, hX2⟩ : ∃ X, X = str (sub T 2 2) := ⟨_, rfl⟩
 have hs2 : ∀ W, (Instr.slice 9 (.string S) (some (.int .i64 ((A : Int) + 2))) (some (.int .i64 ((A : Int) + 4))) none).run Tryz.prog W = .ok (.string X2) W := fun W => by rw [hX2]; exact slc Tryz.underlying9 S A T hT 2 2 _ _ (by omega) (by omega) (by omega) W
 have HP2 := hid (show ∀ v, Calls Tryz.prog 107 #[.string X2] v fun e w' => e = .returned (.int .i64 b.n) ∧ Below v.heap.size v w' from fun v => by
  have := c_l5PairB (sub T 2 2) v (sub_two T 2 (by omega)).1
  rw [(sub_two T 2 (by omega)).2, ← hX2, hbn] at this; exact this)
 obtain ⟨X4, hX4⟩ : ∃ X, X = str (sub T 4 2) := ⟨_, rfl⟩
 have hs4 : ∀ W, (Instr.slice 9 (.string S) (some (.int .i64 ((A : Int) + 4))) (some (.int .i64 ((A : Int) + 6))) none).run Tryz.prog W = .ok (.string X4) W := fun W => by rw [hX4]; exact slc Tryz.underlying9 S A T hT 4 2 _ _ (by omega) (by omega) (by omega) W
 have HP4 := hid (show ∀ v, Calls Tryz.prog 107 #[.string X4] v fun e w' => e = .returned (.int .i64 b.z) ∧ Below v.heap.size v w' from fun v => by
  have := c_l5PairB (sub T 4 2) v (sub_two T 4 (by omega)).1
  rw [(sub_two T 4 (by omega)).2, ← hX4, hbz] at this; exact this)
 have hs8 : ∀ W, (Instr.slice 9 (.string S) (some (.int .i64 ((A : Int) + 8))) (some (.int .i64 ((A : Int) + 8 + ((pat2 T 6 : Nat) : Int)))) none).run Tryz.prog W = .ok (.string b.body) W := fun W => by rw [← hbb]; exact slc Tryz.underlying9 S A T hT 8 (pat2 T 6) _ _ (by omega) (by omega) (by omega) W
 have wr1 : IntKind.i64.wrap ((A : Int) + 1) = (A : Int) + 1 := IntWalk.i64_in _ (by omega)
 have wr2 : IntKind.i64.wrap ((A : Int) + 2) = (A : Int) + 2 := IntWalk.i64_in _ (by omega)
 have wr4 : IntKind.i64.wrap ((A : Int) + 4) = (A : Int) + 4 := IntWalk.i64_in _ (by omega)
 have wr6 : IntKind.i64.wrap ((A : Int) + 6) = (A : Int) + 6 := IntWalk.i64_in _ (by omega)
 have wr8 : IntKind.i64.wrap ((A : Int) + 8) = (A : Int) + 8 := IntWalk.i64_in _ (by omega)
 have wr9 : IntKind.i64.wrap ((A : Int) + 8 + ((pat2 T 6 : Nat) : Int)) = (A : Int) + 8 + ((pat2 T 6 : Nat) : Int) := IntWalk.i64_in _ (by omega)
 rw [← hb0] at hk
 obtain ⟨Y, hY⟩ : ∃ Y, Y = str b.text := ⟨_, rfl⟩
 have HY := hid (fun (v : World) => c_l5Text b v hk)
 rw [← hY] at HY
 obtain ⟨X, hX⟩ : ∃ X, X = S.extract A (A + 10 + pat2 T 6) := ⟨_, rfl⟩
 have hXl : X.data.toList = T.take (10 + pat2 T 6) := by
  rw [hX, ByteArray.data_extract, Array.toList_extract, hT, List.extract]
  congr 1
  omega
 have hslX : ∀ W, (Instr.slice 9 (.string S) (some (.int .i64 (A : Int))) (some (.int .i64 ((A : Int) + 10 + ((pat2 T 6 : Nat) : Int)))) none).run Tryz.prog W = .ok (.string X) W := fun W => by
  have e1 : ((A : Int)).toNat = A := by omega
  have e2 : ((A : Int) + 10 + ((pat2 T 6 : Nat) : Int)).toNat = A + 10 + pat2 T 6 := by omega
  rw [run_slice_string W 9 S .i64 .i64 (A : Int) ((A : Int) + 10 + ((pat2 T 6 : Nat) : Int)) Tryz.underlying9 (by omega) (by omega) (by omega), e1, e2, hX]
 rw [decide_eq_true hk] at HV
 have hYX := bytesNe (a := Y) (b := X) (fun h => ht (by rw [← hXl, ← h, hY, str_list, hb0]))
 have HR := hid (Blk.new w 25 #[.int .i64 0, .bool false, .int .i64 0, .string ByteArray.empty])
 have HB := hid (bel_alloc (Below.refl _ w) (.cells #[.int .i64 0, .bool false, .int .i64 0, .string ByteArray.empty] 25))
 obtain ⟨rb, hrb⟩ : ∃ rb, rb = w.heap.size := ⟨_, rfl⟩
 have HLo := hid (show w.heap.size ≤ rb by omega)
 rw [← hrb] at HR
 obtain ⟨r0, r1, r2, r3⟩ := HR.out.cells4y
 have rf0 := HR.out.frozen 0
 have rf1 := HR.out.frozen 1
 have rf2 := HR.out.frozen 2
 have rf3 := HR.out.frozen 3
 clear hT hTl hX6 hX2 hX4 hbb hbn hbz hbn2 hbz2 hb0 ht hY hX hXl hk
 go_enter Tryz.func71, Tryz.ntmps71
 go_wp2_with fail
 refine (HP6.out _).mono ?_
 rintro e w1 ⟨rfl, hb1⟩
 replace HR := hid (HR.out.on hb1)
 replace HB := hid (bel_trans HB.out hb1)
 clear hb1 r0 r1 r2 r3 rf0 rf1 rf2 rf3
 obtain ⟨r0, r1, r2, r3⟩ := HR.out.cells4y
 have rf0 := HR.out.frozen 0
 have rf1 := HR.out.frozen 1
 have rf2 := HR.out.frozen 2
 have rf3 := HR.out.frozen 3
 rw [← hrb]
 clear hrb
 go_wp2_with fail
 have hltr : rb < w1.heap.size := HR.out.lt
 have hS1 : w1.cell? ⟨rb, 0, none⟩ = some (.int .i64 0) ∧ Below w1.heap.size w1 w1 := ⟨HR.out.cell 0, Below.refl _ _⟩
 refine wp_region_noPanic ?_
 refine wp_region_held_drew (S := (fun v => v.cell? ⟨rb, 0, none⟩ = some (.int .i64 0) ∧ Below w1.heap.size w1 v)) (by kernel_rfl) (s1_drew hS1) (fun hHeld => ?_)
 refine tk 0 ?_
 refine tk 1 ?_
 refine tk 2 ?_
 refine tk 3 ?_
 refine tk 4 ?_
 refine tk 5 ?_
 refine tk 7 ?_
 refine tk 8 ?_
 refine tk 9 ?_
 refine tk 10 ?_
 refine tk 11 ?_
 refine tk 12 ?_
 refine tk 13 ?_
 refine tk 14 ?_
 refine tk 15 ?_
 refine tk 16 ?_
 refine tk 17 ?_
 refine tk 19 ?_
 refine tk 20 ?_
 refine tk 21 ?_
 refine tk 22 ?_
 refine tk 23 ?_
 refine tk 24 ?_
 refine tk 25 ?_
 refine tk 26 ?_
 refine wpAnyH_ready (rs := [6, 28]) (by kernel_rfl) (by simp) ?_
 refine AllReadyH.cons (o := ?or2_6) ?ir2_6 (fun K hK => ?sr2_6) (AllReadyH.cons (o := ?or2_28) ?ir2_28 (fun K hK => ?sr2_28) AllReadyH.nil)
 case ir2_6 => (simp only [List.getElem?_toArray, List.getElem?_cons_succ, List.getElem?_cons_zero]; rfl)
 case ir2_28 => (simp only [List.getElem?_toArray, List.getElem?_cons_succ, List.getElem?_cons_zero]; rfl)
 case' sr2_6 =>
  (go_simp; (go_at_call 107; refine (HP2.out _).mono ?_; rintro e wK ⟨rfl, hbK⟩; (try have hN := hN.on hbK)))
  refine hK.out _ _ ?kr2_6 (fun hHeld => ?_)
  case kr2_6 => (try dsimp only); (first | with_reducible assumption | with_reducible exact s1_eqA hV (by assumption) | with_reducible exact s1_eqS hV hltr hgl (by assumption) | exact s1_bel (by assumption) (by assumption) | assumption | exact s1_alloc (by assumption) _ | exact s1_eqA hV (by assumption) | exact s1_eqS hV hltr hgl (by assumption))
  clear hK K
  try simp only [Act.put, List.setIfInBounds_toArray, List.set_cons_zero, List.set_cons_succ]
  refine wpAnyH_ready (rs := [18, 28]) (by kernel_rfl) (by simp) ?_
  refine AllReadyH.cons (o := ?or2b1_18) ?ir2b1_18 (fun K hK => ?sr2b1_18) (AllReadyH.cons (o := ?or2b1_28) ?ir2b1_28 (fun K hK => ?sr2b1_28) AllReadyH.nil)
  case ir2b1_18 => (simp only [List.getElem?_toArray, List.getElem?_cons_succ, List.getElem?_cons_zero]; rfl)
  case ir2b1_28 => (simp only [List.getElem?_toArray, List.getElem?_cons_succ, List.getElem?_cons_zero]; rfl)
  case' sr2b1_18 =>
   (go_simp; (go_at_call 107; refine (HP4.out _).mono ?_; rintro e wK ⟨rfl, hbK⟩; (try have hN := hN.on hbK)))
   refine hK.out _ _ ?kr2b1_18 (fun hHeld => ?_)
   case kr2b1_18 => (try dsimp only); (first | with_reducible assumption | with_reducible exact s1_eqA hV (by assumption) | with_reducible exact s1_eqS hV hltr hgl (by assumption) | exact s1_bel (by assumption) (by assumption) | assumption | exact s1_alloc (by assumption) _ | exact s1_eqA hV (by assumption) | exact s1_eqS hV hltr hgl (by assumption))
   clear hK K
   try simp only [Act.put, List.setIfInBounds_toArray, List.set_cons_zero, List.set_cons_succ]
   refine tk 27 ?_
   refine wpAnyH_ready (rs := [28]) (by kernel_rfl) (by simp) ?_
   refine AllReadyH.cons (o := ?or2b1b2_28) ?ir2b1b2_28 (fun K hK => ?sr2b1b2_28) AllReadyH.nil
   case ir2b1b2_28 => (simp only [List.getElem?_toArray, List.getElem?_cons_succ, List.getElem?_cons_zero]; rfl)
   ((have hgl := hHeld.2.size; go_simp; first | refine Fresh.learn (fun hN => ?_) | refine Fresh.learnd (fun hN => ?_)))
   refine hK.out _ _ ?kr2b1b2_28 (fun hHeld => ?_)
   case kr2b1b2_28 => (try dsimp only); (first | with_reducible assumption | with_reducible exact s1_eqA hV (by assumption) | with_reducible exact s1_eqS hV hltr hgl (by assumption) | exact s1_bel (by assumption) (by assumption) | assumption | exact s1_alloc (by assumption) _ | exact s1_eqA hV (by assumption) | exact s1_eqS hV hltr hgl (by assumption))
   clear hK K
   try simp only [Act.put, List.setIfInBounds_toArray, List.set_cons_zero, List.set_cons_succ]
   refine wpAnyH_ready (rs := [29]) (by kernel_rfl) (by simp) ?_
   refine AllReadyH.cons (o := ?or2b1b2_29) ?ir2b1b2_29 (fun K hK => ?sr2b1b2_29) AllReadyH.nil
   case ir2b1b2_29 => (simp only [List.getElem?_toArray, List.getElem?_cons_succ, List.getElem?_cons_zero]; rfl)
   ((have n0 := hN.cell 0; have n1 := hN.cell 1; have n2 := hN.cell 2; have n3 := hN.cell 3; have nf0 := hN.frozen 0; have nf1 := hN.frozen 1; have nf2 := hN.frozen 2; have nf3 := hN.frozen 3; go_simp; first | refine Fresh.nameA (fun V hBV hV => ?_) | refine Fresh.nameS hN (fun V hBV hV => ?_)))
   refine hK.out _ _ ?kr2b1b2_29 (fun hHeld => ?_)
   case kr2b1b2_29 => (try dsimp only); (first | with_reducible assumption | with_reducible exact s1_eqA hV (by assumption) | with_reducible exact s1_eqS hV hltr hgl (by assumption) | exact s1_bel (by assumption) (by assumption) | assumption | exact s1_alloc (by assumption) _ | exact s1_eqA hV (by assumption) | exact s1_eqS hV hltr hgl (by assumption))
   clear hK K
   try simp only [Act.put, List.setIfInBounds_toArray, List.set_cons_zero, List.set_cons_succ]
   refine wpAnyH_done (by kernel_rfl) ?_ _
   refine NoPanic.normal ?_
  case' sr2b1_28 =>
   ((have hgl := hHeld.2.size; go_simp; first | refine Fresh.learn (fun hN => ?_) | refine Fresh.learnd (fun hN => ?_)))
   refine hK.out _ _ ?kr2b1_28 (fun hHeld => ?_)
   case kr2b1_28 => (try dsimp only); (first | with_reducible assumption | with_reducible exact s1_eqA hV (by assumption) | with_reducible exact s1_eqS hV hltr hgl (by assumption) | exact s1_bel (by assumption) (by assumption) | assumption | exact s1_alloc (by assumption) _ | exact s1_eqA hV (by assumption) | exact s1_eqS hV hltr hgl (by assumption))
   clear hK K
   try simp only [Act.put, List.setIfInBounds_toArray, List.set_cons_zero, List.set_cons_succ]
   refine wpAnyH_ready (rs := [18]) (by kernel_rfl) (by simp) ?_
   refine AllReadyH.cons (o := ?or2b1b3_18) ?ir2b1b3_18 (fun K hK => ?sr2b1b3_18) AllReadyH.nil
   case ir2b1b3_18 => (simp only [List.getElem?_toArray, List.getElem?_cons_succ, List.getElem?_cons_zero]; rfl)
   (go_simp; (go_at_call 107; refine (HP4.out _).mono ?_; rintro e wK ⟨rfl, hbK⟩; (try have hN := hN.on hbK)))
   refine hK.out _ _ ?kr2b1b3_18 (fun hHeld => ?_)
   case kr2b1b3_18 => (try dsimp only); (first | with_reducible assumption | with_reducible exact s1_eqA hV (by assumption) | with_reducible exact s1_eqS hV hltr hgl (by assumption) | exact s1_bel (by assumption) (by assumption) | assumption | exact s1_alloc (by assumption) _ | exact s1_eqA hV (by assumption) | exact s1_eqS hV hltr hgl (by assumption))
   clear hK K
   try simp only [Act.put, List.setIfInBounds_toArray, List.set_cons_zero, List.set_cons_succ]
   refine tk 27 ?_
   refine wpAnyH_ready (rs := [29]) (by kernel_rfl) (by simp) ?_
   refine AllReadyH.cons (o := ?or2b1b3_29) ?ir2b1b3_29 (fun K hK => ?sr2b1b3_29) AllReadyH.nil
   case ir2b1b3_29 => (simp only [List.getElem?_toArray, List.getElem?_cons_succ, List.getElem?_cons_zero]; rfl)
   ((have n0 := hN.cell 0; have n1 := hN.cell 1; have n2 := hN.cell 2; have n3 := hN.cell 3; have nf0 := hN.frozen 0; have nf1 := hN.frozen 1; have nf2 := hN.frozen 2; have nf3 := hN.frozen 3; go_simp; first | refine Fresh.nameA (fun V hBV hV => ?_) | refine Fresh.nameS hN (fun V hBV hV => ?_)))
   refine hK.out _ _ ?kr2b1b3_29 (fun hHeld => ?_)
   case kr2b1b3_29 => (try dsimp only); (first | with_reducible assumption | with_reducible exact s1_eqA hV (by assumption) | with_reducible exact s1_eqS hV hltr hgl (by assumption) | exact s1_bel (by assumption) (by assumption) | assumption | exact s1_alloc (by assumption) _ | exact s1_eqA hV (by assumption) | exact s1_eqS hV hltr hgl (by assumption))
   clear hK K
   try simp only [Act.put, List.setIfInBounds_toArray, List.set_cons_zero, List.set_cons_succ]
   refine wpAnyH_done (by kernel_rfl) ?_ _
   refine NoPanic.normal ?_
 case' sr2_28 =>
  ((have hgl := hHeld.2.size; go_simp; first | refine Fresh.learn (fun hN => ?_) | refine Fresh.learnd (fun hN => ?_)))
  refine hK.out _ _ ?kr2_28 (fun hHeld => ?_)
  case kr2_28 => (try dsimp only); (first | with_reducible assumption | with_reducible exact s1_eqA hV (by assumption) | with_reducible exact s1_eqS hV hltr hgl (by assumption) | exact s1_bel (by assumption) (by assumption) | assumption | exact s1_alloc (by assumption) _ | exact s1_eqA hV (by assumption) | exact s1_eqS hV hltr hgl (by assumption))
  clear hK K
  try simp only [Act.put, List.setIfInBounds_toArray, List.set_cons_zero, List.set_cons_succ]
  refine wpAnyH_ready (rs := [6]) (by kernel_rfl) (by simp) ?_
  refine AllReadyH.cons (o := ?or2b4_6) ?ir2b4_6 (fun K hK => ?sr2b4_6) AllReadyH.nil
  case ir2b4_6 => (simp only [List.getElem?_toArray, List.getElem?_cons_succ, List.getElem?_cons_zero]; rfl)
  (go_simp; (go_at_call 107; refine (HP2.out _).mono ?_; rintro e wK ⟨rfl, hbK⟩; (try have hN := hN.on hbK)))
  refine hK.out _ _ ?kr2b4_6 (fun hHeld => ?_)
  case kr2b4_6 => (try dsimp only); (first | with_reducible assumption | with_reducible exact s1_eqA hV (by assumption) | with_reducible exact s1_eqS hV hltr hgl (by assumption) | exact s1_bel (by assumption) (by assumption) | assumption | exact s1_alloc (by assumption) _ | exact s1_eqA hV (by assumption) | exact s1_eqS hV hltr hgl (by assumption))
  clear hK K
  try simp only [Act.put, List.setIfInBounds_toArray, List.set_cons_zero, List.set_cons_succ]
  refine wpAnyH_ready (rs := [18]) (by kernel_rfl) (by simp) ?_
  refine AllReadyH.cons (o := ?or2b4_18) ?ir2b4_18 (fun K hK => ?sr2b4_18) AllReadyH.nil
  case ir2b4_18 => (simp only [List.getElem?_toArray, List.getElem?_cons_succ, List.getElem?_cons_zero]; rfl)
  (go_simp; (go_at_call 107; refine (HP4.out _).mono ?_; rintro e wK ⟨rfl, hbK⟩; (try have hN := hN.on hbK)))
  refine hK.out _ _ ?kr2b4_18 (fun hHeld => ?_)
  case kr2b4_18 => (try dsimp only); (first | with_reducible assumption | with_reducible exact s1_eqA hV (by assumption) | with_reducible exact s1_eqS hV hltr hgl (by assumption) | exact s1_bel (by assumption) (by assumption) | assumption | exact s1_alloc (by assumption) _ | exact s1_eqA hV (by assumption) | exact s1_eqS hV hltr hgl (by assumption))
  clear hK K
  try simp only [Act.put, List.setIfInBounds_toArray, List.set_cons_zero, List.set_cons_succ]
  refine tk 27 ?_
  refine wpAnyH_ready (rs := [29]) (by kernel_rfl) (by simp) ?_
  refine AllReadyH.cons (o := ?or2b4_29) ?ir2b4_29 (fun K hK => ?sr2b4_29) AllReadyH.nil
  case ir2b4_29 => (simp only [List.getElem?_toArray, List.getElem?_cons_succ, List.getElem?_cons_zero]; rfl)
  ((have n0 := hN.cell 0; have n1 := hN.cell 1; have n2 := hN.cell 2; have n3 := hN.cell 3; have nf0 := hN.frozen 0; have nf1 := hN.frozen 1; have nf2 := hN.frozen 2; have nf3 := hN.frozen 3; go_simp; first | refine Fresh.nameA (fun V hBV hV => ?_) | refine Fresh.nameS hN (fun V hBV hV => ?_)))
  refine hK.out _ _ ?kr2b4_29 (fun hHeld => ?_)
  case kr2b4_29 => (try dsimp only); (first | with_reducible assumption | with_reducible exact s1_eqA hV (by assumption) | with_reducible exact s1_eqS hV hltr hgl (by assumption) | exact s1_bel (by assumption) (by assumption) | assumption | exact s1_alloc (by assumption) _ | exact s1_eqA hV (by assumption) | exact s1_eqS hV hltr hgl (by assumption))
  clear hK K
  try simp only [Act.put, List.setIfInBounds_toArray, List.set_cons_zero, List.set_cons_succ]
  refine wpAnyH_done (by kernel_rfl) ?_ _
  refine NoPanic.normal ?_
 all_goals
  have KB := hid hBV
  have hbV := hHeld.2
  replace HR := hid (HR.out.on hbV)
  replace HB := hid (bel_trans HB.out hbV)
  have hS4 := s4_of hBV
  clear r0 r1 r2 r3 rf0 rf1 rf2 rf3 hS1 hltr hBV hV hHeld hbV
  go_wp2_with fail
  refine qB (S := (fun v => v.cell? ⟨_, 0, none⟩ = some (.int .i64 b.n) ∧ v.cell? ⟨_, 1, none⟩ = some (.bool b.raw) ∧ v.cell? ⟨_, 2, none⟩ = some (.int .i64 b.z) ∧ v.cell? ⟨_, 3, none⟩ = some (.string b.body) ∧ Below V.heap.size V v)) (by kernel_rfl) (by kernel_rfl) (s4_drew hS4) ?_
  refine qK ?_
  refine qC (fun wq hSq => HV.out wq) (fun wq wr hbr hSq => s4_bel hbr hSq) ?_
  refine qK ?_
  refine qK ?_
  refine qK ?_
  refine qC (fun wq hSq => HY.out wq) (fun wq wr hbr hSq => s4_bel hbr hSq) ?_
  refine qK ?_
  refine qK ?_
  refine qK ?_
  refine qK ?_
  refine qK ?_
  refine qK ?_
  refine qN ?_
  intro wq hSq
  (try dsimp only at hSq)
  have hbq := hSq.2.2.2.2
  replace HR := hid (HR.out.on hbq)
  replace KB := hid (KB.out.on hbq)
  replace HB := hid (bel_trans HB.out hbq)
  clear hSq hS4 hbq
  obtain ⟨r0, r1, r2, r3⟩ := HR.out.cells4y
  have rf0 := HR.out.frozen 0
  have rf1 := HR.out.frozen 1
  have rf2 := HR.out.frozen 2
  have rf3 := HR.out.frozen 3
  have hltr : rb < wq.heap.size := HR.out.lt
  go_wp2_with fail
  obtain ⟨Wz, hWz⟩ : ∃ Wz, Wz = ((((wq.setCell ⟨rb, 0, none⟩ (.int .i64 0)).setCell ⟨rb, 1, none⟩ (.bool false)).setCell ⟨rb, 2, none⟩ (.int .i64 0)).setCell ⟨rb, 3, none⟩ (.string ByteArray.empty)) := ⟨_, rfl⟩
  have HZ : Blk Wz rb 25 #[.int .i64 0, .bool false, .int .i64 0, .string ByteArray.empty] := by rw [hWz]; exact HR.out.put4y _ _ _ _
  have HBz : Below w.heap.size w Wz := by rw [hWz]; exact bel_set (bel_set (bel_set (bel_set HB.out HLo.out _) HLo.out _) HLo.out _) HLo.out _
  rw [show ((((wq.setCell ⟨rb, 0, none⟩ (.int .i64 0)).setCell ⟨rb, 1, none⟩ (.bool false)).setCell ⟨rb, 2, none⟩ (.int .i64 0)).setCell ⟨rb, 3, none⟩ (.string { data := #[] })) = Wz from hWz.symm]
  obtain ⟨z0, z1, z2, z3⟩ := HZ.cells4y
  clear hWz
  exact bodyPost_ret (v := noPb) (by simp [results, Tryz.results71, go_sem, z0, z1, z2, z3, noPb]) rfl ⟨rfl, HBz⟩

set_option maxHeartbeats 8000000 in
set_option maxRecDepth 100000 in
theorem c_ParseBlock_n7 (S : ByteArray) (A : Nat) (T : List UInt8) (w : World) (hS : S.size ≤ 1000000000000) (hA : A ≤ S.size) (hT : T = S.data.toList.drop A) (h : 10 ≤ T.length) (h0 : bat T 0 = 181) (h1 : bat T 1 ≤ 1) (h6 : 10 + pat2 T 6 ≤ T.length) (hk : (brd T).ok) (ht : (brd T).text = T.take (10 + pat2 T 6)) : Calls Tryz.prog 71 #[.string S, .int .i64 (A : Int)] w fun e w' => e = .returned (.tuple #[.agg #[.int .i64 (brd T).n, .bool (brd T).raw, .int .i64 (brd T).z, .string (brd T).body], .int .i64 ((A : Int) + 10 + (brd T).body.size), .bool true]) ∧ Below w.heap.size w w' := by
 have hTl : T.length = S.size - A := by rw [hT, List.length_drop]; simp
 have d1 : decide ((A : Int) < 0) = false := decide_eq_false (by omega)
 have d2 : decide ((S.size : Int) < (A : Int)) = false := decide_eq_false (by omega)
 have d3 : decide ((S.size : Int) - (A : Int) < 10) = false := decide_eq_false (by omega)
 have i0 : ∀ W, (Instr.index 9 (.string S) (.int .i64 (A : Int))).run Tryz.prog W = .ok (.int .u8 ((bat T 0 : Nat) : Int)) W := fun W => ix Tryz.underlying9 S A T hT 0 _ (by omega) (by omega) W
 have i1 : ∀ W, (Instr.index 9 (.string S) (.int .i64 ((A : Int) + 1))).run Tryz.prog W = .ok (.int .u8 ((bat T 1 : Nat) : Int)) W := fun W => ix Tryz.underlying9 S A T hT 1 _ (by omega) (by omega) W
 rw [h0] at i0
 have d5 : decide ((1 : Int) < ((bat T 1 : Nat) : Int)) = false := decide_eq_false (by omega)
 obtain ⟨X6, hX6⟩ : ∃ X, X = str (sub T 6 2) := ⟨_, rfl⟩
 have hs6 : ∀ W, (Instr.slice 9 (.string S) (some (.int .i64 ((A : Int) + 6))) (some (.int .i64 ((A : Int) + 8))) none).run Tryz.prog W = .ok (.string X6) W := fun W => by rw [hX6]; exact slc Tryz.underlying9 S A T hT 6 2 _ _ (by omega) (by omega) (by omega) W
 have HP6 := hid (show ∀ v, Calls Tryz.prog 107 #[.string X6] v fun e w' => e = .returned (.int .i64 ((pat2 T 6 : Nat) : Int)) ∧ Below v.heap.size v w' from fun v => by
  have := c_l5PairB (sub T 6 2) v (sub_two T 6 (by omega)).1
  rw [(sub_two T 6 (by omega)).2, ← hX6] at this; exact this)
 have hp6 : pat2 T 6 ≤ 65535 := by have := bat_lt T 6; have := bat_lt T (6 + 1); unfold pat2; omega
 have d6 : decide ((S.size : Int) - (A : Int) - 10 < ((pat2 T 6 : Nat) : Int)) = false := decide_eq_false (by omega)
 obtain ⟨b, hb0⟩ : ∃ b : Bl, b = brd T := ⟨_, rfl⟩
 have hbs : b.body.size = pat2 T 6 := by rw [hb0]; exact brd_size T h6
 have hbn : ((pat2 T 2 : Nat) : Int) = b.n := by rw [hb0]; rfl
 have hbz : ((pat2 T 4 : Nat) : Int) = b.z := by rw [hb0]; rfl
 have hbr : ((((bat T 1 : Nat) : Int)) == 0) = b.raw := by
  rw [hb0]
  show _ = (bat T 1 == 0)
  rw [Bool.eq_iff_iff]
  simp
 have hbb : str (sub T 8 (pat2 T 6)) = b.body := by rw [hb0]; rfl
 have hbn2 : -9223372036854775808 ≤ b.n ∧ b.n ≤ 9223372036854775807 := by rw [← hbn]; have := bat_lt T 2; have := bat_lt T (2 + 1); unfold pat2; omega
 have hbz2 : -9223372036854775808 ≤ b.z ∧ b.z ≤ 9223372036854775807 := by rw [← hbz]; have := bat_lt T 4; have := bat_lt T (4 + 1); unfold pat2; omega
 have HV := hid (fun (v : World) => c_l5Form b v hbn2 hbz2 (by unfold maxLen; omega))
 obtain ⟨X2, hX2⟩ : ∃ X, X = str (sub T 2 2) := ⟨_, rfl⟩
 have hs2 : ∀ W, (Instr.slice 9 (.string S) (some (.int .i64 ((A : Int) + 2))) (some (.int .i64 ((A : Int) + 4))) none).run Tryz.prog W = .ok (.string X2) W := fun W => by rw [hX2]; exact slc Tryz.underlying9 S A T hT 2 2 _ _ (by omega) (by omega) (by omega) W
 have HP2 := hid (show ∀ v, Calls Tryz.prog 107 #[.string X2] v fun e w' => e = .returned (.int .i64 b.n) ∧ Below v.heap.size v w' from fun v => by
  have := c_l5PairB (sub T 2 2) v (sub_two T 2 (by omega)).1
  rw [(sub_two T 2 (by omega)).2, ← hX2, hbn] at this; exact this)
 obtain ⟨X4, hX4⟩ : ∃ X, X = str (sub T 4 2) := ⟨_, rfl⟩
 have hs4 : ∀ W, (Instr.slice 9 (.string S) (some (.int .i64 ((A : Int) + 4))) (some (.int .i64 ((A : Int) + 6))) none).run Tryz.prog W = .ok (.string X4) W := fun W => by rw [hX4]; exact slc Tryz.underlying9 S A T hT 4 2 _ _ (by omega) (by omega) (by omega) W
 have HP4 := hid (show ∀ v, Calls Tryz.prog 107 #[.string X4] v fun e w' => e = .returned (.int .i64 b.z) ∧ Below v.heap.size v w' from fun v => by
  have := c_l5PairB (sub T 4 2) v (sub_two T 4 (by omega)).1
  rw [(sub_two T 4 (by omega)).2, ← hX4, hbz] at this; exact this)
 have hs8 : ∀ W, (Instr.slice 9 (.string S) (some (.int .i64 ((A : Int) + 8))) (some (.int .i64 ((A : Int) + 8 + ((pat2 T 6 : Nat) : Int)))) none).run Tryz.prog W = .ok (.string b.body) W := fun W => by rw [← hbb]; exact slc Tryz.underlying9 S A T hT 8 (pat2 T 6) _ _ (by omega) (by omega) (by omega) W
 have wr1 : IntKind.i64.wrap ((A : Int) + 1) = (A : Int) + 1 := IntWalk.i64_in _ (by omega)
 have wr2 : IntKind.i64.wrap ((A : Int) + 2) = (A : Int) + 2 := IntWalk.i64_in _ (by omega)
 have wr4 : IntKind.i64.wrap ((A : Int) + 4) = (A : Int) + 4 := IntWalk.i64_in _ (by omega)
 have wr6 : IntKind.i64.wrap ((A : Int) + 6) = (A : Int) + 6 := IntWalk.i64_in _ (by omega)
 have wr8 : IntKind.i64.wrap ((A : Int) + 8) = (A : Int) + 8 := IntWalk.i64_in _ (by omega)
 have wr9 : IntKind.i64.wrap ((A : Int) + 8 + ((pat2 T 6 : Nat) : Int)) = (A : Int) + 8 + ((pat2 T 6 : Nat) : Int) := IntWalk.i64_in _ (by omega)
 rw [← hb0] at hk
 obtain ⟨Y, hY⟩ : ∃ Y, Y = str b.text := ⟨_, rfl⟩
 have HY := hid (fun (v : World) => c_l5Text b v hk)
 rw [← hY] at HY
 obtain ⟨X, hX⟩ : ∃ X, X = S.extract A (A + 10 + pat2 T 6) := ⟨_, rfl⟩
 have hXl : X.data.toList = T.take (10 + pat2 T 6) := by
  rw [hX, ByteArray.data_extract, Array.toList_extract, hT, List.extract]
  congr 1
  omega
 have hslX : ∀ W, (Instr.slice 9 (.string S) (some (.int .i64 (A : Int))) (some (.int .i64 ((A : Int) + 10 + ((pat2 T 6 : Nat) : Int)))) none).run Tryz.prog W = .ok (.string X) W := fun W => by
  have e1 : ((A : Int)).toNat = A := by omega
  have e2 : ((A : Int) + 10 + ((pat2 T 6 : Nat) : Int)).toNat = A + 10 + pat2 T 6 := by omega
  rw [run_slice_string W 9 S .i64 .i64 (A : Int) ((A : Int) + 10 + ((pat2 T 6 : Nat) : Int)) Tryz.underlying9 (by omega) (by omega) (by omega), e1, e2, hX]
 rw [decide_eq_true hk] at HV
 have hYX : Y = X := ByteArray.ext (Array.toList_inj.1 (by rw [hXl, hY, str_list, hb0, ht]))
 subst hYX
 have HBS := hid hbs
 rw [← hb0]
 have HR := hid (Blk.new w 25 #[.int .i64 0, .bool false, .int .i64 0, .string ByteArray.empty])
 have HB := hid (bel_alloc (Below.refl _ w) (.cells #[.int .i64 0, .bool false, .int .i64 0, .string ByteArray.empty] 25))
 obtain ⟨rb, hrb⟩ : ∃ rb, rb = w.heap.size := ⟨_, rfl⟩
 have HLo := hid (show w.heap.size ≤ rb by omega)
 rw [← hrb] at HR
 obtain ⟨r0, r1, r2, r3⟩ := HR.out.cells4y
 have rf0 := HR.out.frozen 0
 have rf1 := HR.out.frozen 1
 have rf2 := HR.out.frozen 2
 have rf3 := HR.out.frozen 3
 clear hT hTl hX6 hX2 hX4 hbb hbn hbz hbn2 hbz2 hb0 ht hY hX hXl hk hbs
 go_enter Tryz.func71, Tryz.ntmps71
 go_wp2_with fail
 refine (HP6.out _).mono ?_
 rintro e w1 ⟨rfl, hb1⟩
 replace HR := hid (HR.out.on hb1)
 replace HB := hid (bel_trans HB.out hb1)
 clear hb1 r0 r1 r2 r3 rf0 rf1 rf2 rf3
 obtain ⟨r0, r1, r2, r3⟩ := HR.out.cells4y
 have rf0 := HR.out.frozen 0
 have rf1 := HR.out.frozen 1
 have rf2 := HR.out.frozen 2
 have rf3 := HR.out.frozen 3
 rw [← hrb]
 clear hrb
 go_wp2_with fail
 have hltr : rb < w1.heap.size := HR.out.lt
 have hS1 : w1.cell? ⟨rb, 0, none⟩ = some (.int .i64 0) ∧ Below w1.heap.size w1 w1 := ⟨HR.out.cell 0, Below.refl _ _⟩
 refine wp_region_noPanic ?_
 refine wp_region_held_drew (S := (fun v => v.cell? ⟨rb, 0, none⟩ = some (.int .i64 0) ∧ Below w1.heap.size w1 v)) (by kernel_rfl) (s1_drew hS1) (fun hHeld => ?_)
 refine tk 0 ?_
 refine tk 1 ?_
 refine tk 2 ?_
 refine tk 3 ?_
 refine tk 4 ?_
 refine tk 5 ?_
 refine tk 7 ?_
 refine tk 8 ?_
 refine tk 9 ?_
 refine tk 10 ?_
 refine tk 11 ?_
 refine tk 12 ?_
 refine tk 13 ?_
 refine tk 14 ?_
 refine tk 15 ?_
 refine tk 16 ?_
 refine tk 17 ?_
 refine tk 19 ?_
 refine tk 20 ?_
 refine tk 21 ?_
 refine tk 22 ?_
 refine tk 23 ?_
 refine tk 24 ?_
 refine tk 25 ?_
 refine tk 26 ?_
 refine wpAnyH_ready (rs := [6, 28]) (by kernel_rfl) (by simp) ?_
 refine AllReadyH.cons (o := ?or3_6) ?ir3_6 (fun K hK => ?sr3_6) (AllReadyH.cons (o := ?or3_28) ?ir3_28 (fun K hK => ?sr3_28) AllReadyH.nil)
 case ir3_6 => (simp only [List.getElem?_toArray, List.getElem?_cons_succ, List.getElem?_cons_zero]; rfl)
 case ir3_28 => (simp only [List.getElem?_toArray, List.getElem?_cons_succ, List.getElem?_cons_zero]; rfl)
 case' sr3_6 =>
  (go_simp; (go_at_call 107; refine (HP2.out _).mono ?_; rintro e wK ⟨rfl, hbK⟩; (try have hN := hN.on hbK)))
  refine hK.out _ _ ?kr3_6 (fun hHeld => ?_)
  case kr3_6 => (try dsimp only); (first | with_reducible assumption | with_reducible exact s1_eqA hV (by assumption) | with_reducible exact s1_eqS hV hltr hgl (by assumption) | exact s1_bel (by assumption) (by assumption) | assumption | exact s1_alloc (by assumption) _ | exact s1_eqA hV (by assumption) | exact s1_eqS hV hltr hgl (by assumption))
  clear hK K
  try simp only [Act.put, List.setIfInBounds_toArray, List.set_cons_zero, List.set_cons_succ]
  refine wpAnyH_ready (rs := [18, 28]) (by kernel_rfl) (by simp) ?_
  refine AllReadyH.cons (o := ?or3b1_18) ?ir3b1_18 (fun K hK => ?sr3b1_18) (AllReadyH.cons (o := ?or3b1_28) ?ir3b1_28 (fun K hK => ?sr3b1_28) AllReadyH.nil)
  case ir3b1_18 => (simp only [List.getElem?_toArray, List.getElem?_cons_succ, List.getElem?_cons_zero]; rfl)
  case ir3b1_28 => (simp only [List.getElem?_toArray, List.getElem?_cons_succ, List.getElem?_cons_zero]; rfl)
  case' sr3b1_18 =>
   (go_simp; (go_at_call 107; refine (HP4.out _).mono ?_; rintro e wK ⟨rfl, hbK⟩; (try have hN := hN.on hbK)))
   refine hK.out _ _ ?kr3b1_18 (fun hHeld => ?_)
   case kr3b1_18 => (try dsimp only); (first | with_reducible assumption | with_reducible exact s1_eqA hV (by assumption) | with_reducible exact s1_eqS hV hltr hgl (by assumption) | exact s1_bel (by assumption) (by assumption) | assumption | exact s1_alloc (by assumption) _ | exact s1_eqA hV (by assumption) | exact s1_eqS hV hltr hgl (by assumption))
   clear hK K
   try simp only [Act.put, List.setIfInBounds_toArray, List.set_cons_zero, List.set_cons_succ]
   refine tk 27 ?_
   refine wpAnyH_ready (rs := [28]) (by kernel_rfl) (by simp) ?_
   refine AllReadyH.cons (o := ?or3b1b2_28) ?ir3b1b2_28 (fun K hK => ?sr3b1b2_28) AllReadyH.nil
   case ir3b1b2_28 => (simp only [List.getElem?_toArray, List.getElem?_cons_succ, List.getElem?_cons_zero]; rfl)
   ((have hgl := hHeld.2.size; go_simp; first | refine Fresh.learn (fun hN => ?_) | refine Fresh.learnd (fun hN => ?_)))
   refine hK.out _ _ ?kr3b1b2_28 (fun hHeld => ?_)
   case kr3b1b2_28 => (try dsimp only); (first | with_reducible assumption | with_reducible exact s1_eqA hV (by assumption) | with_reducible exact s1_eqS hV hltr hgl (by assumption) | exact s1_bel (by assumption) (by assumption) | assumption | exact s1_alloc (by assumption) _ | exact s1_eqA hV (by assumption) | exact s1_eqS hV hltr hgl (by assumption))
   clear hK K
   try simp only [Act.put, List.setIfInBounds_toArray, List.set_cons_zero, List.set_cons_succ]
   refine wpAnyH_ready (rs := [29]) (by kernel_rfl) (by simp) ?_
   refine AllReadyH.cons (o := ?or3b1b2_29) ?ir3b1b2_29 (fun K hK => ?sr3b1b2_29) AllReadyH.nil
   case ir3b1b2_29 => (simp only [List.getElem?_toArray, List.getElem?_cons_succ, List.getElem?_cons_zero]; rfl)
   ((have n0 := hN.cell 0; have n1 := hN.cell 1; have n2 := hN.cell 2; have n3 := hN.cell 3; have nf0 := hN.frozen 0; have nf1 := hN.frozen 1; have nf2 := hN.frozen 2; have nf3 := hN.frozen 3; go_simp; first | refine Fresh.nameA (fun V hBV hV => ?_) | refine Fresh.nameS hN (fun V hBV hV => ?_)))
   refine hK.out _ _ ?kr3b1b2_29 (fun hHeld => ?_)
   case kr3b1b2_29 => (try dsimp only); (first | with_reducible assumption | with_reducible exact s1_eqA hV (by assumption) | with_reducible exact s1_eqS hV hltr hgl (by assumption) | exact s1_bel (by assumption) (by assumption) | assumption | exact s1_alloc (by assumption) _ | exact s1_eqA hV (by assumption) | exact s1_eqS hV hltr hgl (by assumption))
   clear hK K
   try simp only [Act.put, List.setIfInBounds_toArray, List.set_cons_zero, List.set_cons_succ]
   refine wpAnyH_done (by kernel_rfl) ?_ _
   refine NoPanic.normal ?_
  case' sr3b1_28 =>
   ((have hgl := hHeld.2.size; go_simp; first | refine Fresh.learn (fun hN => ?_) | refine Fresh.learnd (fun hN => ?_)))
   refine hK.out _ _ ?kr3b1_28 (fun hHeld => ?_)
   case kr3b1_28 => (try dsimp only); (first | with_reducible assumption | with_reducible exact s1_eqA hV (by assumption) | with_reducible exact s1_eqS hV hltr hgl (by assumption) | exact s1_bel (by assumption) (by assumption) | assumption | exact s1_alloc (by assumption) _ | exact s1_eqA hV (by assumption) | exact s1_eqS hV hltr hgl (by assumption))
   clear hK K
   try simp only [Act.put, List.setIfInBounds_toArray, List.set_cons_zero, List.set_cons_succ]
   refine wpAnyH_ready (rs := [18]) (by kernel_rfl) (by simp) ?_
   refine AllReadyH.cons (o := ?or3b1b3_18) ?ir3b1b3_18 (fun K hK => ?sr3b1b3_18) AllReadyH.nil
   case ir3b1b3_18 => (simp only [List.getElem?_toArray, List.getElem?_cons_succ, List.getElem?_cons_zero]; rfl)
   (go_simp; (go_at_call 107; refine (HP4.out _).mono ?_; rintro e wK ⟨rfl, hbK⟩; (try have hN := hN.on hbK)))
   refine hK.out _ _ ?kr3b1b3_18 (fun hHeld => ?_)
   case kr3b1b3_18 => (try dsimp only); (first | with_reducible assumption | with_reducible exact s1_eqA hV (by assumption) | with_reducible exact s1_eqS hV hltr hgl (by assumption) | exact s1_bel (by assumption) (by assumption) | assumption | exact s1_alloc (by assumption) _ | exact s1_eqA hV (by assumption) | exact s1_eqS hV hltr hgl (by assumption))
   clear hK K
   try simp only [Act.put, List.setIfInBounds_toArray, List.set_cons_zero, List.set_cons_succ]
   refine tk 27 ?_
   refine wpAnyH_ready (rs := [29]) (by kernel_rfl) (by simp) ?_
   refine AllReadyH.cons (o := ?or3b1b3_29) ?ir3b1b3_29 (fun K hK => ?sr3b1b3_29) AllReadyH.nil
   case ir3b1b3_29 => (simp only [List.getElem?_toArray, List.getElem?_cons_succ, List.getElem?_cons_zero]; rfl)
   ((have n0 := hN.cell 0; have n1 := hN.cell 1; have n2 := hN.cell 2; have n3 := hN.cell 3; have nf0 := hN.frozen 0; have nf1 := hN.frozen 1; have nf2 := hN.frozen 2; have nf3 := hN.frozen 3; go_simp; first | refine Fresh.nameA (fun V hBV hV => ?_) | refine Fresh.nameS hN (fun V hBV hV => ?_)))
   refine hK.out _ _ ?kr3b1b3_29 (fun hHeld => ?_)
   case kr3b1b3_29 => (try dsimp only); (first | with_reducible assumption | with_reducible exact s1_eqA hV (by assumption) | with_reducible exact s1_eqS hV hltr hgl (by assumption) | exact s1_bel (by assumption) (by assumption) | assumption | exact s1_alloc (by assumption) _ | exact s1_eqA hV (by assumption) | exact s1_eqS hV hltr hgl (by assumption))
   clear hK K
   try simp only [Act.put, List.setIfInBounds_toArray, List.set_cons_zero, List.set_cons_succ]
   refine wpAnyH_done (by kernel_rfl) ?_ _
   refine NoPanic.normal ?_
 case' sr3_28 =>
  ((have hgl := hHeld.2.size; go_simp; first | refine Fresh.learn (fun hN => ?_) | refine Fresh.learnd (fun hN => ?_)))
  refine hK.out _ _ ?kr3_28 (fun hHeld => ?_)
  case kr3_28 => (try dsimp only); (first | with_reducible assumption | with_reducible exact s1_eqA hV (by assumption) | with_reducible exact s1_eqS hV hltr hgl (by assumption) | exact s1_bel (by assumption) (by assumption) | assumption | exact s1_alloc (by assumption) _ | exact s1_eqA hV (by assumption) | exact s1_eqS hV hltr hgl (by assumption))
  clear hK K
  try simp only [Act.put, List.setIfInBounds_toArray, List.set_cons_zero, List.set_cons_succ]
  refine wpAnyH_ready (rs := [6]) (by kernel_rfl) (by simp) ?_
  refine AllReadyH.cons (o := ?or3b4_6) ?ir3b4_6 (fun K hK => ?sr3b4_6) AllReadyH.nil
  case ir3b4_6 => (simp only [List.getElem?_toArray, List.getElem?_cons_succ, List.getElem?_cons_zero]; rfl)
  (go_simp; (go_at_call 107; refine (HP2.out _).mono ?_; rintro e wK ⟨rfl, hbK⟩; (try have hN := hN.on hbK)))
  refine hK.out _ _ ?kr3b4_6 (fun hHeld => ?_)
  case kr3b4_6 => (try dsimp only); (first | with_reducible assumption | with_reducible exact s1_eqA hV (by assumption) | with_reducible exact s1_eqS hV hltr hgl (by assumption) | exact s1_bel (by assumption) (by assumption) | assumption | exact s1_alloc (by assumption) _ | exact s1_eqA hV (by assumption) | exact s1_eqS hV hltr hgl (by assumption))
  clear hK K
  try simp only [Act.put, List.setIfInBounds_toArray, List.set_cons_zero, List.set_cons_succ]
  refine wpAnyH_ready (rs := [18]) (by kernel_rfl) (by simp) ?_
  refine AllReadyH.cons (o := ?or3b4_18) ?ir3b4_18 (fun K hK => ?sr3b4_18) AllReadyH.nil
  case ir3b4_18 => (simp only [List.getElem?_toArray, List.getElem?_cons_succ, List.getElem?_cons_zero]; rfl)
  (go_simp; (go_at_call 107; refine (HP4.out _).mono ?_; rintro e wK ⟨rfl, hbK⟩; (try have hN := hN.on hbK)))
  refine hK.out _ _ ?kr3b4_18 (fun hHeld => ?_)
  case kr3b4_18 => (try dsimp only); (first | with_reducible assumption | with_reducible exact s1_eqA hV (by assumption) | with_reducible exact s1_eqS hV hltr hgl (by assumption) | exact s1_bel (by assumption) (by assumption) | assumption | exact s1_alloc (by assumption) _ | exact s1_eqA hV (by assumption) | exact s1_eqS hV hltr hgl (by assumption))
  clear hK K
  try simp only [Act.put, List.setIfInBounds_toArray, List.set_cons_zero, List.set_cons_succ]
  refine tk 27 ?_
  refine wpAnyH_ready (rs := [29]) (by kernel_rfl) (by simp) ?_
  refine AllReadyH.cons (o := ?or3b4_29) ?ir3b4_29 (fun K hK => ?sr3b4_29) AllReadyH.nil
  case ir3b4_29 => (simp only [List.getElem?_toArray, List.getElem?_cons_succ, List.getElem?_cons_zero]; rfl)
  ((have n0 := hN.cell 0; have n1 := hN.cell 1; have n2 := hN.cell 2; have n3 := hN.cell 3; have nf0 := hN.frozen 0; have nf1 := hN.frozen 1; have nf2 := hN.frozen 2; have nf3 := hN.frozen 3; go_simp; first | refine Fresh.nameA (fun V hBV hV => ?_) | refine Fresh.nameS hN (fun V hBV hV => ?_)))
  refine hK.out _ _ ?kr3b4_29 (fun hHeld => ?_)
  case kr3b4_29 => (try dsimp only); (first | with_reducible assumption | with_reducible exact s1_eqA hV (by assumption) | with_reducible exact s1_eqS hV hltr hgl (by assumption) | exact s1_bel (by assumption) (by assumption) | assumption | exact s1_alloc (by assumption) _ | exact s1_eqA hV (by assumption) | exact s1_eqS hV hltr hgl (by assumption))
  clear hK K
  try simp only [Act.put, List.setIfInBounds_toArray, List.set_cons_zero, List.set_cons_succ]
  refine wpAnyH_done (by kernel_rfl) ?_ _
  refine NoPanic.normal ?_
 all_goals
  have KB := hid hBV
  have hbV := hHeld.2
  replace HR := hid (HR.out.on hbV)
  replace HB := hid (bel_trans HB.out hbV)
  have hS4 := s4_of hBV
  clear r0 r1 r2 r3 rf0 rf1 rf2 rf3 hS1 hltr hBV hV hHeld hbV
  go_wp2_with fail
  refine qB (S := (fun v => v.cell? ⟨_, 0, none⟩ = some (.int .i64 b.n) ∧ v.cell? ⟨_, 1, none⟩ = some (.bool b.raw) ∧ v.cell? ⟨_, 2, none⟩ = some (.int .i64 b.z) ∧ v.cell? ⟨_, 3, none⟩ = some (.string b.body) ∧ Below V.heap.size V v)) (by kernel_rfl) (by kernel_rfl) (s4_drew hS4) ?_
  refine qK ?_
  refine qC (fun wq hSq => HV.out wq) (fun wq wr hbr hSq => s4_bel hbr hSq) ?_
  refine qK ?_
  refine qK ?_
  refine qK ?_
  refine qC (fun wq hSq => HY.out wq) (fun wq wr hbr hSq => s4_bel hbr hSq) ?_
  refine qK ?_
  refine qK ?_
  refine qK ?_
  refine qK ?_
  refine qK ?_
  refine qK ?_
  refine qN ?_
  intro wq hSq
  (try dsimp only at hSq)
  have hbq := hSq.2.2.2.2
  replace HR := hid (HR.out.on hbq)
  replace KB := hid (KB.out.on hbq)
  replace HB := hid (bel_trans HB.out hbq)
  clear hSq hS4 hbq
  obtain ⟨r0, r1, r2, r3⟩ := HR.out.cells4y
  have rf0 := HR.out.frozen 0
  have rf1 := HR.out.frozen 1
  have rf2 := HR.out.frozen 2
  have rf3 := HR.out.frozen 3
  have hltr : rb < wq.heap.size := HR.out.lt
  obtain ⟨n0, n1, n2, n3⟩ := KB.out.cells4y
  go_wp2_with fail
  obtain ⟨Wz, hWz⟩ : ∃ Wz, Wz = ((((wq.setCell ⟨rb, 0, none⟩ (.int .i64 b.n)).setCell ⟨rb, 1, none⟩ (.bool b.raw)).setCell ⟨rb, 2, none⟩ (.int .i64 b.z)).setCell ⟨rb, 3, none⟩ (.string b.body)) := ⟨_, rfl⟩
  rw [← hWz]
  have HZ : Blk Wz rb 25 #[.int .i64 b.n, .bool b.raw, .int .i64 b.z, .string b.body] := by rw [hWz]; exact HR.out.put4y _ _ _ _
  have HBz : Below w.heap.size w Wz := by rw [hWz]; exact bel_set (bel_set (bel_set (bel_set HB.out HLo.out _) HLo.out _) HLo.out _) HLo.out _
  obtain ⟨z0, z1, z2, z3⟩ := HZ.cells4y
  clear hWz n0 n1 n2 n3 r0 r1 r2 r3
  exact bodyPost_ret (v := .tuple #[.agg #[.int .i64 b.n, .bool b.raw, .int .i64 b.z, .string b.body], .int .i64 ((A : Int) + 10 + ((pat2 T 6 : Nat) : Int)), .bool true]) (by simp [results, Tryz.results71, go_sem, z0, z1, z2, z3]) rfl ⟨by rw [HBS.out], HBz⟩
end

section
open Go.ChangeShapes Go.WideShapes Go.ChangeAt Go.RowKit Go.Joins
set_option linter.unusedVariables false
set_option linter.unusedSimpArgs false

theorem c_PB_some (S : ByteArray) (A : Nat) (T : List UInt8) (b : Bl) (w : World) (hS : S.size ≤ 1000000000000) (hA : A ≤ S.size) (hT : T = S.data.toList.drop A) (h : parse T = some b) : Calls Tryz.prog 71 #[.string S, .int .i64 (A : Int)] w fun e w' => e = .returned (.tuple #[.agg #[.int .i64 b.n, .bool b.raw, .int .i64 b.z, .string b.body], .int .i64 ((A : Int) + 10 + b.body.size), .bool true]) ∧ Below w.heap.size w w' := by
 obtain ⟨rfl, h1, h2, h3, h4⟩ := parse_some h
 exact c_ParseBlock_n7 S A T w hS hA hT (by omega) h1.2.1 h1.2.2.1 h2 h3 h4

theorem c_PB_none (S : ByteArray) (A : Nat) (T : List UInt8) (w : World) (hS : S.size ≤ 1000000000000) (hA : A ≤ S.size) (hT : T = S.data.toList.drop A) (h : parse T = none) : Calls Tryz.prog 71 #[.string S, .int .i64 (A : Int)] w fun e w' => e = .returned noPb ∧ Below w.heap.size w w' := by
 have hno := parse_none h
 by_cases h0 : T.length < 10
 ·exact c_ParseBlock_n1 S A T w hS hA hT h0
 by_cases h1 : bat T 0 = 181
 ·by_cases h2 : bat T 1 ≤ 1
  ·by_cases h3 : T.length < 10 + pat2 T 6
   ·exact c_ParseBlock_n4 S A T w hS hA hT (by omega) h1 h2 h3
   ·by_cases h4 : (brd T).ok
    ·by_cases h5 : (brd T).text = T.take (10 + pat2 T 6)
     ·exact absurd ⟨pb_hd h1 h2 (by omega) h4, by omega, h4, h5⟩ hno
     ·exact c_ParseBlock_n6 S A T w hS hA hT (by omega) h1 h2 (by omega) h4 h5
    ·exact c_ParseBlock_n5 S A T w hS hA hT (by omega) h1 h2 (by omega) h4
  ·exact c_ParseBlock_n3 S A T w hS hA hT (by omega) h1 (by omega)
 ·exact c_ParseBlock_n2 S A T w hS hA hT (by omega) h1

/-- a whole reading is the only one -/
theorem Stop.whole {L : List UInt8} {bs cs : List Bl} (h : Stop L bs 0) (g : Rdg L cs) : cs = bs.take cs.length ∧ cs.length ≤ bs.length := by
 have hw : (txt bs).length = L.length := by
  rcases h.why with ⟨_, h1⟩ | ⟨_, h2⟩
  ·exact h1
  ·rcases h2 with ⟨h3, _⟩ | ⟨b, _, h3 | h3⟩
   ·cases h3
   ·cases h3.1
   ·cases h3.1
 rcases Nat.lt_or_ge bs.length cs.length with hlt | hge
 ·have e := h.brd.det g bs.length (Nat.le_refl _) (by omega)
  rw [List.take_length] at e
  have := txt_take_lt (bs := cs) (k := bs.length) (b := cs[bs.length]) (List.getElem?_eq_getElem hlt)
  rw [← e, hw] at this
  have := g.2.2
  omega
 ·have e := h.brd.det g cs.length hge (Nat.le_refl _)
  rw [List.take_length] at e
  exact ⟨e.symm, hge⟩
theorem Stop.whole_at {L : List UInt8} {bs cs : List Bl} (h : Stop L bs 0) (g : Rdg L cs) (hlt : (txt cs).length < L.length) : ∃ b, parse (L.drop (txt cs).length) = some b ∧ b.n = (cs.length : Int) := by
 obtain ⟨e, hle⟩ := h.whole g
 have hw : (txt bs).length = L.length := by
  rcases h.why with ⟨_, h1⟩ | ⟨_, h2⟩
  ·exact h1
  ·rcases h2 with ⟨h3, _⟩ | ⟨b, _, h3 | h3⟩
   ·cases h3
   ·cases h3.1
   ·cases h3.1
 have hl : cs.length < bs.length := by
  rcases Nat.lt_or_ge cs.length bs.length with h1 | h1
  ·exact h1
  ·rw [List.take_of_length_le h1] at e; rw [e] at hlt; omega
 refine ⟨bs[cs.length], ?_, (h.brd.1 cs.length bs[cs.length] (List.getElem?_eq_getElem hl)).2⟩
 have := h.brd.at_ (k := cs.length) (List.getElem?_eq_getElem hl)
 rw [← e] at this
 exact this
theorem Stop.whole_eq {L : List UInt8} {bs cs : List Bl} (h : Stop L bs 0) (g : Rdg L cs) (hlt : (txt cs).length = L.length) : cs = bs := by
 obtain ⟨e, hle⟩ := h.whole g
 rcases Nat.lt_or_ge cs.length bs.length with h1 | h1
 ·have := txt_take_lt (bs := bs) (k := cs.length) (b := bs[cs.length]) (List.getElem?_eq_getElem h1)
  rw [← e] at this
  have := h.brd.2.2
  omega
 ·rw [e, List.take_of_length_le h1]

theorem zs_bd (bs : List Bl) (h : ∀ b ∈ bs, b.z ≤ 64) : zs bs ≤ 64 * bs.length := by
 induction bs with
 | nil => simp [zs]
 | cons b l ih =>
  have h1 := h b (by simp)
  have h2 := ih (fun x hx => h x (by simp [hx]))
  simp only [zs, List.length_cons]
  omega
theorem Rdg.zs_le {L : List UInt8} {bs : List Bl} (h : Rdg L bs) : zs bs ≤ 2560 := by
 have h1 := h.len_le
 have h2 := zs_bd bs (fun b hb => by
  obtain ⟨i, hi, rfl⟩ := List.getElem_of_mem hb
  have := (h.1 i bs[i] (List.getElem?_eq_getElem hi)).1.2.1
  omega)
 omega
theorem own_bls0 (W : World) (B : Nat) (hB : B ≤ W.heap.size) : (W.alloc (.cells #[] 25)).ownsRow B 25 4 (.slice (some ⟨W.heap.size, 0, none⟩) 0 0) 0 (bvs []) := World.ownsRow_made (e := 25) (size := 4) (base := B) W #[] 0 hB (by simp) (by simp [maxLen])

set_option maxHeartbeats 4000000 in
set_option maxRecDepth 100000 in
theorem c_l5Blocks (S : ByteArray) (L : List UInt8) (bs : List Bl) (c : Nat) (w : World) (hS : S.size ≤ 1000000000000) (hL : L = S.data.toList) (hst : Stop L bs c) : Calls Tryz.prog 45 #[.string S] w fun e w' => ∃ v, e = .returned (.tuple #[v, .bool (decide (c = 0))]) ∧ w'.ownsRow w.heap.size 25 4 v (if c = 0 then bs else []).length (bvs (if c = 0 then bs else [])) ∧ Below w.heap.size w w' := by
 have hLl : L.length = S.size := by rw [hL]; simp
 have HST := hid hst
 have HLL := hid hLl
 have HLS := hid hL
 have HE := hid (own_bls0 w w.heap.size (Nat.le_refl _))
 clear hst hLl hL
 go_enter Tryz.func45, Tryz.ntmps45
 go_wp2_with fail
 go_loopw [4, 5, 6] (fun v s i wr => ∃ cs : List Bl, Hid (Rdg L cs) ∧ s = .int .i64 ((zs cs : Nat) : Int) ∧ i = .int .i64 (((txt cs).length : Nat) : Int) ∧ wr.ownsRow w.heap.size 25 4 v cs.length (bvs cs) ∧ Below w.heap.size w wr) (fun _ _ i _ => S.size - (intOf i).toNat)
 case atStart => exact ⟨[], hid (Rdg.nil _), rfl, rfl, HE.out, by exact obB⟩
 case round =>
  obtain ⟨cs, HR, rfl, rfl, hown, hbl⟩ := hrel
  have h40 := HR.out.len_le
  have hz := HR.out.zs_le
  have ht := HR.out.txt_le
  have htl := HR.out.2.2
  rw [HLL.out] at htl
  obtain ⟨a, ha⟩ : ∃ a, a = (txt cs).length := ⟨_, rfl⟩
  obtain ⟨z, hzz⟩ : ∃ z, z = zs cs := ⟨_, rfl⟩
  obtain ⟨k, hk⟩ : ∃ k, k = cs.length := ⟨_, rfl⟩
  rw [← ha] at ht htl ⊢
  rw [← hzz] at hz ⊢
  rw [← hk] at ht h40 hown
  have HA := hid ha
  have HZ := hid hzz
  have HK := hid hk
  have hszr := hbl.size
  obtain ⟨A4, c4, rfl, hat4, hk9⟩ := own_bls hown
  clear hk9
  rw [← hk] at hown ⊢
  clear ha hzz hk hat4
  by_cases hlt : a < S.size
  ·cases hp : parse (L.drop a) with
   | none =>
    have hc0 : ¬ c = 0 := fun h0 => by
     subst h0
     obtain ⟨b, h1, _⟩ := HST.out.whole_at HR.out (by rw [← HA.out, HLL.out]; exact hlt)
     rw [← HA.out, hp] at h1; cases h1
    have HPN := hid (c_PB_none S a (L.drop a) wr hS htl (by rw [HLS.out]) hp)
    have HC := hid hc0
    clear hp hc0
    go_wp2_with fail
    refine (HPN.out).mono ?_
    rintro e w2 ⟨rfl, hb2⟩
    unfold noPb
    have k2 := hbl.trans (hb2.mono hbl.size)
    have s2 := k2.size
    clear hb2
    go_wp2_with fail
    go_ret2
    exact ⟨_, rfl, (by have h := own_bls0 (w2.alloc (.cells #[.int .i64 0, .bool false, .int .i64 0, .string ByteArray.empty] 25)) w.heap.size (by rw [World.size_alloc]; omega); rw [World.size_alloc] at h; exact h), bel_alloc (bel_alloc k2 _) _⟩
   | some b =>
    have hbo := parse_len hp
    have HPS := hid (c_PB_some S a (L.drop a) b wr hS htl (by rw [HLS.out]) hp)
    have hbn := hbo.1.1
    have hbz := hbo.1.2.1
    have hbl2 := Bl.len b hbo.1
    have hbt := hbo.2.1
    rw [List.length_drop, HLL.out] at hbt
    clear hbo
    have HP := hid hp
    clear hp
    by_cases hn : b.n = (k : Int)
    ·have HN := hid (show Rdg L (cs ++ [b]) from HR.out.next (by rw [← HA.out]; exact HP.out) (by rw [hn, HK.out]))
     have HZ2 := hid (show zs (cs ++ [b]) = z + b.z.toNat by rw [zs_snoc, HZ.out])
     have HA2 := hid (show (txt (cs ++ [b])).length = a + 10 + b.body.size by rw [txt_snoc, List.length_append, b.text_len, HA.out]; omega)
     have HK2 := hid (show (cs ++ [b]).length = k + 1 by simp [HK.out])
     obtain ⟨zb, hzb⟩ : ∃ zb, zb = b.z := ⟨_, rfl⟩
     obtain ⟨nb, hnb⟩ : ∃ nb, nb = b.n := ⟨_, rfl⟩
     have HBV := hid (show bv b = [.int .i64 nb, .bool b.raw, .int .i64 zb, .string b.body] by rw [hzb, hnb]; rfl)
     rw [← hzb] at hbz HZ2
     rw [← hzb, ← hnb] at HPS
     rw [← hnb] at hn hbn
     have hnk : (nb == (k : Int)) = true := eq_yes hn
     have hnk2 : (nb != (k : Int)) = false := by simp [hn]
     clear hzb hnb hn
     go_wp2_with fail
     refine (HPS.out).mono ?_
     rintro e w2 ⟨rfl, hb2⟩
     have k2 := hbl.trans (hb2.mono hbl.size)
     have s2 := k2.size
     have hown2 := own_on hown hb2
     have hB := Blk.new w2 25 #[.int .i64 nb, .bool b.raw, .int .i64 zb, .string b.body]
     obtain ⟨c0, c1, c2, c3⟩ := hB.cells4y
     have hownb := hown2.alloc (.cells #[.int .i64 nb, .bool b.raw, .int .i64 zb, .string b.body] 25)
     have hne : ∀ g, (Value.slice A4 k c4).ownBlock = some g → g < w2.heap.size := fun g hg => (hown2.lt g hg).2
     have kb := bel_alloc k2 (.cells #[.int .i64 nb, .bool b.raw, .int .i64 zb, .string b.body] 25)
     clear hB hown hb2
     go_wp2_with (at_builtin; refine app_bl rfl _ _ 60 rfl w.heap.size 25 Tryz.underlying60 Tryz.info_block _ k cs rfl hownb b _ _ _ _ HBV.out.symm 1 (by rw [World.size_alloc]; rfl) (by omega) (by rw [World.size_alloc]; omega) ?_; intro v4 w4 hown4 hb4 hg4; have q2 := hg4.cell c2 (fun h => absurd (hne _ h.symm) (Nat.lt_irrefl _)); clear c0 c1 c2 c3)
     go_roundw
     case rel => exact ⟨cs ++ [b], HN, by rw [HZ2.out]; congr 1; omega, by rw [HA2.out]; rfl, by rw [HK2.out]; exact hown4, kb.trans hb4⟩
     case measure => simp [intOf]; omega
    ·have hc0 : ¬ c = 0 := fun h0 => by
      subst h0
      obtain ⟨b', h1, h2⟩ := HST.out.whole_at HR.out (by rw [← HA.out, HLL.out]; exact hlt)
      rw [← HA.out, HP.out] at h1
      simp only [Option.some.injEq] at h1
      subst h1
      exact hn (by rw [h2, HK.out])
     obtain ⟨nb, hnb⟩ : ∃ nb, nb = b.n := ⟨_, rfl⟩
     rw [← hnb] at hn hbn HPS
     have hnk2 : (nb != (k : Int)) = true := by simpa using hn
     clear hnb hn
     go_wp2_with fail
     refine (HPS.out).mono ?_
     rintro e w2 ⟨rfl, hb2⟩
     have k2 := hbl.trans (hb2.mono hbl.size)
     have s2 := k2.size
     have hB := Blk.new w2 25 #[.int .i64 nb, .bool b.raw, .int .i64 b.z, .string b.body]
     obtain ⟨c0, c1, c2, c3⟩ := hB.cells4y
     clear hB hb2
     go_wp2_with fail
     go_ret2
     exact ⟨_, rfl, (by have h := own_bls0 (w2.alloc (.cells #[.int .i64 nb, .bool b.raw, .int .i64 b.z, .string b.body] 25)) w.heap.size (by rw [World.size_alloc]; omega); rw [World.size_alloc] at h; exact h), bel_alloc (bel_alloc k2 _) _⟩
  ·have hw : (txt cs).length = L.length := by have h1 := HA.out; have h2 := HLL.out; omega
   by_cases h2000 : 2000 < z
   ·have hc0 : ¬ c = 0 := fun h0 => by
     subst h0
     have e := HST.out.whole_eq HR.out hw
     have := HST.out.le
     rw [← e, ← HZ.out] at this
     omega
    clear hw
    go_wp2_with fail
    go_ret2
    exact ⟨_, rfl, own_bls0 _ w.heap.size (by omega), by exact obB⟩
   ·have hs0 : Stop L cs 0 := ⟨HR.out, by rw [← HZ.out]; omega, Or.inl ⟨rfl, hw⟩⟩
    obtain ⟨e1, e2⟩ := HST.out.one hs0
    subst e1 e2
    have HK3 := hid (show bs.length = k from HK.out.symm)
    clear hw hs0
    go_wp2_with fail
    go_ret2
    exact ⟨_, rfl, by simp only [if_true]; rw [HK3.out]; exact hown, hbl⟩
end

section
open Go.ChangeShapes Go.WideShapes Go.ChangeAt Go.RowKit Go.Joins
set_option linter.unusedVariables false
set_option linter.unusedSimpArgs false

theorem c_RB0_some (S : ByteArray) (A : Nat) (T : List UInt8) (b : Bl) (w : World) (a0 a1 a2 : Addr) (hS : S.size ≤ 1000000000000) (hA : A ≤ S.size) (hT : T = S.data.toList.drop A) (hG : Glob0 w a0) (h : parse T = some b) : Calls Tryz.prog 167 #[.string S, .int .i64 (A : Int)] w fun e w' => e = .returned (.tuple #[.agg #[.int .i64 b.n, .bool b.raw, .int .i64 b.z, .string b.body], .int .i64 ((A : Int) + 10 + b.body.size), .nilIface]) ∧ Below w.heap.size w w' := by
 obtain ⟨rfl, h1, h2, h3, h4⟩ := parse_some h
 exact c_readBlock_x3 S A T w a0 a1 a2 hS hA hT hG h1 h2 h3 h4

theorem c_RB0_none (S : ByteArray) (A : Nat) (T : List UInt8) (w : World) (a0 a1 a2 : Addr) (hS : S.size ≤ 1000000000000) (hA : A ≤ S.size) (hT : T = S.data.toList.drop A) (hG : Glob0 w a0) (h : parse T = none) : Calls Tryz.prog 167 #[.string S, .int .i64 (A : Int)] w fun e w' => e = .returned (noBl a0) ∧ Below w.heap.size w w' := by
 have hno := parse_none h
 by_cases h1 : hdOk T
 ·by_cases h3 : T.length < 10 + pat2 T 6
  ·exact c_readBlock_no2 S A T w a0 a1 a2 hS hA hT hG h1 h3
  ·by_cases h4 : (brd T).ok
   ·by_cases h5 : (brd T).text = T.take (10 + pat2 T 6)
    ·exact absurd ⟨h1, by omega, h4, h5⟩ hno
    ·exact c_readBlock_x2 S A T w a0 a1 a2 hS hA hT hG h1 (by omega) h4 h5
   ·exact c_readBlock_x1 S A T w a0 a1 a2 hS hA hT hG h1 (by omega) h4
 ·exact c_readBlock_no1 S A T w a0 a1 a2 hS hA hT hG h1

theorem c_RB_some (S : ByteArray) (A : Nat) (T : List UInt8) (b : Bl) (w : World) (a0 a1 a2 : Addr) (hS : S.size ≤ 1000000000000) (hA : A ≤ S.size) (hT : T = S.data.toList.drop A) (hG : Glob w a0 a1 a2) (h : parse T = some b) : Calls Tryz.prog 167 #[.string S, .int .i64 (A : Int)] w fun e w' => e = .returned (.tuple #[.agg #[.int .i64 b.n, .bool b.raw, .int .i64 b.z, .string b.body], .int .i64 ((A : Int) + 10 + b.body.size), .nilIface]) ∧ Below w.heap.size w w' :=
 c_RB0_some S A T b w a0 a1 a2 hS hA hT hG.g0 h

theorem c_RB_none (S : ByteArray) (A : Nat) (T : List UInt8) (w : World) (a0 a1 a2 : Addr) (hS : S.size ≤ 1000000000000) (hA : A ≤ S.size) (hT : T = S.data.toList.drop A) (hG : Glob w a0 a1 a2) (h : parse T = none) : Calls Tryz.prog 167 #[.string S, .int .i64 (A : Int)] w fun e w' => e = .returned (noBl a0) ∧ Below w.heap.size w w' :=
 c_RB0_none S A T w a0 a1 a2 hS hA hT hG.g0 h

set_option maxHeartbeats 4000000 in
set_option maxRecDepth 100000 in
theorem c_readNext_none (S : ByteArray) (a z cb : Nat) (v1 v2 : Value) (w : World) (a0 a1 a2 : Addr) (hS : S.size ≤ 1000000000000) (ha : a ≤ S.size) (hG : Glob w a0 a1 a2) (hC : Blk w cb 82 #[v1, v2, .int .i64 (a : Int), .int .i64 (z : Int)]) (h : parse (S.data.toList.drop a) = none) : Calls Tryz.prog 142 #[.pointer (some ⟨cb, 0, none⟩), .string S] w fun e w' => e = .returned (errV a0) ∧ Below w.heap.size w w' := by
 have HR := hid (c_RB_none S a _ w a0 a1 a2 hS ha rfl hG h)
 obtain ⟨c0, c1, c2, c3⟩ := hC.cells4y
 clear hC hG h
 go_enter Tryz.func142, Tryz.ntmps142
 go_wp2_with fail
 refine (HR.out).mono ?_
 rintro e w1 ⟨rfl, hb1⟩
 clear c0 c1 c2 c3
 unfold noBl errV
 go_wp2_with fail
 go_ret
 exact ⟨rfl, by exact obB⟩

set_option maxHeartbeats 4000000 in
set_option maxRecDepth 100000 in
theorem c_readNext_num (S : ByteArray) (a z cb k c1 : Nat) (A1 : Option Addr) (v2 : Value) (b : Bl) (w : World) (a0 a1 a2 : Addr) (hS : S.size ≤ 1000000000000) (ha : a ≤ S.size) (hG : Glob w a0 a1 a2) (hC : Blk w cb 82 #[.slice A1 k c1, v2, .int .i64 (a : Int), .int .i64 (z : Int)]) (h : parse (S.data.toList.drop a) = some b) (hk : k ≤ 1000000) (hn : b.n ≠ (k : Int)) : Calls Tryz.prog 142 #[.pointer (some ⟨cb, 0, none⟩), .string S] w fun e w' => e = .returned (errV a1) ∧ Below w.heap.size w w' := by
 have HR := hid (c_RB_some S a _ b w a0 a1 a2 hS ha rfl hG h)
 have hbo := parse_len h
 have hbn := hbo.1.1
 have hbz := hbo.1.2.1
 have hbt := hbo.2.1
 rw [List.length_drop] at hbt
 have hSl : S.data.toList.length = S.size := by simp
 rw [hSl] at hbt
 have HG := hid hG
 have HC := hid hC
 obtain ⟨c0, c1', c2, c3⟩ := hC.cells4y
 obtain ⟨nb, hnb⟩ : ∃ nb, nb = b.n := ⟨_, rfl⟩
 rw [← hnb] at HR hn hbn
 have hnk : (nb != (k : Int)) = true := by simpa using hn
 clear hC hG h hbo hSl hnb hn
 go_enter Tryz.func142, Tryz.ntmps142
 go_wp2_with fail
 refine (HR.out).mono ?_
 rintro e w1 ⟨rfl, hb1⟩
 replace HC := hid (HC.out.on hb1)
 replace HG := hid (HG.out.on hb1)
 have hlc := HC.out.lt
 clear c0 c1' c2 c3
 have hB := Blk.new w1 25 #[.int .i64 nb, .bool b.raw, .int .i64 b.z, .string b.body]
 obtain ⟨d0, d1, d2, d3⟩ := hB.cells4y
 have hC2 := HC.out.alloc (.cells #[.int .i64 nb, .bool b.raw, .int .i64 b.z, .string b.body] 25)
 obtain ⟨c0, c1', c2, c3⟩ := hC2.cells4y
 have hgn := (HG.out.on (bel_alloc (Below.refl _ w1) (.cells #[.int .i64 nb, .bool b.raw, .int .i64 b.z, .string b.body] 25))).number
 clear hB hC2
 go_wp2_with fail
 go_quiet (fail)
 go_wp2_with fail
 go_ret
 exact ⟨rfl, by exact obB⟩

set_option maxHeartbeats 4000000 in
set_option maxRecDepth 100000 in
theorem c_readNext_long (S : ByteArray) (a z cb k c1 : Nat) (A1 : Option Addr) (v2 : Value) (b : Bl) (w : World) (a0 a1 a2 : Addr) (hS : S.size ≤ 1000000000000) (ha : a ≤ S.size) (hG : Glob w a0 a1 a2) (hC : Blk w cb 82 #[.slice A1 k c1, v2, .int .i64 (a : Int), .int .i64 (z : Int)]) (h : parse (S.data.toList.drop a) = some b) (hk : k ≤ 1000000) (hn : b.n = (k : Int)) (hz : z ≤ 2000) (hl : 2000 < z + b.z.toNat) : Calls Tryz.prog 142 #[.pointer (some ⟨cb, 0, none⟩), .string S] w fun e w' => e = .returned (errV a2) ∧ Below w.heap.size w w' := by
 have HR := hid (c_RB_some S a _ b w a0 a1 a2 hS ha rfl hG h)
 have hbo := parse_len h
 have hbn := hbo.1.1
 have hbz := hbo.1.2.1
 have hbt := hbo.2.1
 rw [List.length_drop] at hbt
 have hSl : S.data.toList.length = S.size := by simp
 rw [hSl] at hbt
 have HG := hid hG
 have HC := hid hC
 obtain ⟨c0, c1', c2, c3⟩ := hC.cells4y
 obtain ⟨nb, hnb⟩ : ∃ nb, nb = b.n := ⟨_, rfl⟩
 obtain ⟨zb, hzb⟩ : ∃ zb, zb = b.z := ⟨_, rfl⟩
 rw [← hnb] at hn hbn
 rw [← hzb] at hbz hl
 rw [← hnb, ← hzb] at HR
 have hnk : (nb != (k : Int)) = false := by simp [hn]
 have hld : decide ((2000 : Int) < (z : Int) + zb) = true := decide_eq_true (by omega)
 clear hC hG h hbo hSl hnb hn hl hzb
 go_enter Tryz.func142, Tryz.ntmps142
 go_wp2_with fail
 refine (HR.out).mono ?_
 rintro e w1 ⟨rfl, hb1⟩
 replace HC := hid (HC.out.on hb1)
 replace HG := hid (HG.out.on hb1)
 have hlc := HC.out.lt
 clear c0 c1' c2 c3
 have hB := Blk.new w1 25 #[.int .i64 nb, .bool b.raw, .int .i64 zb, .string b.body]
 obtain ⟨d0, d1, d2, d3⟩ := hB.cells4y
 have hC2 := HC.out.alloc (.cells #[.int .i64 nb, .bool b.raw, .int .i64 zb, .string b.body] 25)
 obtain ⟨c0, c1', c2, c3⟩ := hC2.cells4y
 have hgn := (HG.out.on (bel_alloc (Below.refl _ w1) (.cells #[.int .i64 nb, .bool b.raw, .int .i64 zb, .string b.body] 25))).long
 clear hB hC2
 go_wp2_with fail
 go_quiet (fail)
 go_wp2_with fail
 go_quiet (fail)
 go_wp2_with fail
 go_ret
 exact ⟨rfl, by exact obB⟩
end

section
open Go.ChangeShapes Go.WideShapes Go.ChangeAt Go.RowKit Go.Joins
set_option linter.unusedVariables false
set_option linter.unusedSimpArgs false

theorem RFresh.learn {K : Act → World → Prop} {a : Act} {X : World} {cs : Array Value} {t : TypeId} (h : ∀ V, V = X.alloc (.cells cs t) → Blk V X.heap.size t cs → K a V) : K a (X.alloc (.cells cs t)) := h _ rfl (Blk.new X t cs)
theorem RFresh.learnd {K : Act → World → Prop} {a : Act} {X : World} {cs : Array Value} {t : TypeId} (h : ∀ V, V = (X.alloc (.cells cs t)).drew → Blk V X.heap.size t cs → K a V) : K a (X.alloc (.cells cs t)).drew := h _ rfl (Blk.new X t cs).drew

theorem t4_eqd {X V : World} {o : Obj} {a0 a1 a2 a3 : Addr} {x0 x1 x2 x3 : Value} (hV : V = (X.alloc o).drew) (h : X.cell? a0 = some x0 ∧ X.cell? a1 = some x1 ∧ X.cell? a2 = some x2 ∧ X.cell? a3 = some x3 ∧ True) : V.cell? a0 = some x0 ∧ V.cell? a1 = some x1 ∧ V.cell? a2 = some x2 ∧ V.cell? a3 = some x3 ∧ True := by
 subst hV; exact t4_drew (t4_alloc h o)
theorem t4_set {X : World} {c i : Nat} {u : Value} {g : Nat} {x0 x1 x2 x3 : Value} (hg : g ≠ c) (h : X.cell? ⟨g, 0, none⟩ = some x0 ∧ X.cell? ⟨g, 1, none⟩ = some x1 ∧ X.cell? ⟨g, 2, none⟩ = some x2 ∧ X.cell? ⟨g, 3, none⟩ = some x3 ∧ True) : (X.setCell ⟨c, i, none⟩ u).cell? ⟨g, 0, none⟩ = some x0 ∧ (X.setCell ⟨c, i, none⟩ u).cell? ⟨g, 1, none⟩ = some x1 ∧ (X.setCell ⟨c, i, none⟩ u).cell? ⟨g, 2, none⟩ = some x2 ∧ (X.setCell ⟨c, i, none⟩ u).cell? ⟨g, 3, none⟩ = some x3 ∧ True :=
 have hh := Below.heap_setCell X ⟨c, i, none⟩ u g hg
 ⟨(World.cell?_of_block (a := ⟨g, 0, none⟩) hh).trans h.1, (World.cell?_of_block (a := ⟨g, 1, none⟩) hh).trans h.2.1, (World.cell?_of_block (a := ⟨g, 2, none⟩) hh).trans h.2.2.1, (World.cell?_of_block (a := ⟨g, 3, none⟩) hh).trans h.2.2.2.1, trivial⟩

set_option maxHeartbeats 8000000 in
set_option maxRecDepth 100000 in
theorem c_readNext_yes (S : ByteArray) (a z cb k B : Nat) (v1 v2 : Value) (cs : List Bl) (pl : List Pr) (b : Bl) (w : World) (a0 a1 a2 : Addr) (hS : S.size ≤ 1000000000000) (ha : a ≤ S.size) (hG : Glob w a0 a1 a2) (hC : Blk w cb 82 #[v1, v2, .int .i64 (a : Int), .int .i64 (z : Int)]) (h1 : w.ownsRow B 25 4 v1 k (bvs cs)) (h2 : w.ownsRow B 80 2 v2 k (prs pl)) (hB : B ≤ cb) (h : parse (S.data.toList.drop a) = some b) (hk : k ≤ 1000000) (hn : b.n = (k : Int)) (hz : z ≤ 2000) (hl : z + b.z.toNat ≤ 2000) : Calls Tryz.prog 142 #[.pointer (some ⟨cb, 0, none⟩), .string S] w fun e w' => ∃ u1 u2, e = .returned .nilIface ∧ Blk w' cb 82 #[u1, u2, .int .i64 ((a : Int) + 10 + b.body.size), .int .i64 ((z : Int) + b.z)] ∧ w'.ownsRow B 25 4 u1 (k + 1) (bvs (cs ++ [b])) ∧ w'.ownsRow B 80 2 u2 (k + 1) (prs (pl ++ [((a : Int), (z : Int))])) ∧ Below B w w' := by
 have HR := hid (c_RB_some S a _ b w a0 a1 a2 hS ha rfl hG h)
 have hbo := parse_len h
 have hbn := hbo.1.1
 have hbz := hbo.1.2.1
 have hbt := hbo.2.1
 rw [List.length_drop] at hbt
 have hSl : S.data.toList.length = S.size := by simp
 rw [hSl] at hbt
 have HC := hid hC
 have H1 := hid h1
 have H2 := hid h2
 obtain ⟨A1, c1, rfl, _, hq1⟩ := own_bls h1
 clear hq1
 have hcs : cs.length = k := by have := h1.1; rw [bvs_len] at this; omega
 rw [hcs] at H1 HC h1 hC
 obtain ⟨c0, c1', c2, c3⟩ := hC.cells4y
 obtain ⟨nb, hnb⟩ : ∃ nb, nb = b.n := ⟨_, rfl⟩
 obtain ⟨zl, hzb⟩ : ∃ zl, zl = b.z := ⟨_, rfl⟩
 have HBV := hid (show [.int .i64 nb, .bool b.raw, .int .i64 zl, .string b.body] = bv b by rw [hnb, hzb]; rfl)
 rw [← hnb] at hn hbn
 rw [← hzb] at hbz hl
 rw [← hnb, ← hzb] at HR
 rw [← hzb]
 have hnk : (nb != (k : Int)) = false := by simp [hn]
 have hld : decide ((2000 : Int) < (z : Int) + zl) = false := decide_eq_false (by omega)
 clear hC hG h hbo hSl hnb hn hl hzb h1 h2 hcs
 go_enter Tryz.func142, Tryz.ntmps142
 go_wp2_with fail
 refine (HR.out).mono ?_
 rintro e w1 ⟨rfl, hb1⟩
 have hBw : B ≤ w.heap.size := by have := HC.out.lt; omega
 have k1 := hb1.mono hBw
 replace HC := hid (HC.out.on hb1)
 replace H1 := hid (own_on H1.out hb1)
 replace H2 := hid (own_on H2.out hb1)
 clear c0 c1' c2 c3 hb1
 have HQC := hid HC.out.lt
 have HNq := hid (fun g (hg : (Value.slice A1 k c1).ownBlock = some g) => (H1.out.lt g hg).2)
 have KB := hid (Blk.new w1 25 #[.int .i64 nb, .bool b.raw, .int .i64 zl, .string b.body])
 replace HC := hid (HC.out.alloc (.cells #[.int .i64 nb, .bool b.raw, .int .i64 zl, .string b.body] 25))
 replace H1 := hid (H1.out.alloc (.cells #[.int .i64 nb, .bool b.raw, .int .i64 zl, .string b.body] 25))
 replace H2 := hid (H2.out.alloc (.cells #[.int .i64 nb, .bool b.raw, .int .i64 zl, .string b.body] 25))
 have K1 := hid (k1.trans (Below.mono (show Below w1.heap.size w1 (w1.alloc (.cells #[.int .i64 nb, .bool b.raw, .int .i64 zl, .string b.body] 25)) by exact obB) (by have := k1.size; omega)))
 obtain ⟨d0, d1, d2, d3⟩ := KB.out.cells4y
 obtain ⟨c0, c1', c2, c3⟩ := HC.out.cells4y
 clear k1
 go_wp2_with fail
 obtain ⟨X1, hX1⟩ : ∃ X, X = w1.alloc (.cells #[.int .i64 nb, .bool b.raw, .int .i64 zl, .string b.body] 25) := ⟨_, rfl⟩
 obtain ⟨q, hq⟩ : ∃ q, q = w1.heap.size := ⟨_, rfl⟩
 rw [← hX1] at HC H1 H2 K1 d0 d1 d2 d3 c0 c1' c2 c3 KB ⊢
 rw [← hq] at KB d0 d1 d2 d3 HNq HQC ⊢
 clear hX1 hq
 go_quiet (fail)
 obtain ⟨X2, hX2⟩ : ∃ X, X = X1.drewN nq := ⟨_, rfl⟩
 have e2 : Below X1.heap.size X1 X2 := by rw [hX2]; exact obB
 rw [← hX2]
 replace HC := hid (HC.out.on e2)
 replace H1 := hid (own_on H1.out e2)
 replace H2 := hid (own_on H2.out e2)
 replace KB := hid (KB.out.on e2)
 replace K1 := hid (K1.out.trans (e2.mono (by have := K1.out.size; omega)))
 clear e2 hX2 d0 d1 d2 d3 c0 c1' c2 c3
 obtain ⟨d0, d1, d2, d3⟩ := KB.out.cells4y
 obtain ⟨c0, c1', c2, c3⟩ := HC.out.cells4y
 go_wp2_with fail
 go_quiet (fail)
 obtain ⟨X3, hX3⟩ : ∃ X, X = X2.drewN nq := ⟨_, rfl⟩
 have e2 : Below X2.heap.size X2 X3 := by rw [hX3]; exact obB
 rw [← hX3]
 replace HC := hid (HC.out.on e2)
 replace H1 := hid (own_on H1.out e2)
 replace H2 := hid (own_on H2.out e2)
 replace KB := hid (KB.out.on e2)
 replace K1 := hid (K1.out.trans (e2.mono (by have := K1.out.size; omega)))
 clear e2 hX3 d0 d1 d2 d3 c0 c1' c2 c3
 obtain ⟨d0, d1, d2, d3⟩ := KB.out.cells4y
 obtain ⟨c0, c1', c2, c3⟩ := HC.out.cells4y
 go_wp2_with fail
 have hT5 : X3.cell? ⟨q, 0, none⟩ = some (.int .i64 nb) ∧ X3.cell? ⟨q, 1, none⟩ = some (.bool b.raw) ∧ X3.cell? ⟨q, 2, none⟩ = some (.int .i64 zl) ∧ X3.cell? ⟨q, 3, none⟩ = some (.string b.body) ∧ True := ⟨d0, d1, d2, d3, trivial⟩
 have hqc : q ≠ cb := by have := HQC.out; omega
 have hf0 := HC.out.frozen 0
 have hBX : B ≤ X3.heap.size := by have := K1.out.size; omega
 have n1 := own_away H1.out HC.out (by decide)
 have HN2 := hid (own_two H1.out H2.out (by decide))
 clear d0 d1 d2 d3 c1' c2 c3
 refine wp_region_noPanic ?_
 refine wp_region_held_drew (S := (fun v => v.cell? ⟨q, 0, none⟩ = some (.int .i64 nb) ∧ v.cell? ⟨q, 1, none⟩ = some (.bool b.raw) ∧ v.cell? ⟨q, 2, none⟩ = some (.int .i64 zl) ∧ v.cell? ⟨q, 3, none⟩ = some (.string b.body) ∧ True)) (by kernel_rfl) (t4_drew hT5) (fun hHeld => ?_)
 refine tk 0 ?_
 refine tk 1 ?_
 refine tk 2 ?_
 refine tk 3 ?_
 refine tk 5 ?_
 refine wpAnyH_ready (rs := [4, 6]) (by kernel_rfl) (by simp) ?_
 refine AllReadyH.cons (o := ?or1_4) ?ir1_4 (fun K hK => ?sr1_4) (AllReadyH.cons (o := ?or1_6) ?ir1_6 (fun K hK => ?sr1_6) AllReadyH.nil)
 case ir1_4 => (simp only [List.getElem?_toArray, List.getElem?_cons_succ, List.getElem?_cons_zero]; rfl)
 case ir1_6 => (simp only [List.getElem?_toArray, List.getElem?_cons_succ, List.getElem?_cons_zero]; rfl)
 case' sr1_4 =>
  (go_simp; (skip))
  refine hK.out _ _ ?kr1_4 (fun hHeld => ?_)
  case kr1_4 => (try dsimp only); (first | with_reducible assumption | with_reducible exact t4_set hqc (by assumption) | exact t4_bel (by assumption) (by assumption) | assumption | exact t4_alloc (by assumption) _ | exact t4_set hqc (by assumption))
  clear hK K
  try simp only [Act.put, List.setIfInBounds_toArray, List.set_cons_zero, List.set_cons_succ]
  refine wpAnyH_ready (rs := [6]) (by kernel_rfl) (by simp) ?_
  refine AllReadyH.cons (o := ?or1b1_6) ?ir1b1_6 (fun K hK => ?sr1b1_6) AllReadyH.nil
  case ir1b1_6 => (simp only [List.getElem?_toArray, List.getElem?_cons_succ, List.getElem?_cons_zero]; rfl)
  ((go_simp; refine RFresh.learnd (fun V hV hN => ?_); have hSn := t4_eqd hV hT5; have hVb : Below X3.heap.size X3 V := (by rw [hV]; exact bel_drew (bel_alloc (Below.refl _ _) _)); have hcV : V.cell? ⟨cb, 0, none⟩ = some (.slice A1 k c1) := (HC.out.on hVb).cell 0; clear hV))
  refine hK.out _ _ ?kr1b1_6 (fun hHeld => ?_)
  case kr1b1_6 => (try dsimp only); (first | with_reducible assumption | with_reducible exact t4_set hqc (by assumption) | exact t4_bel (by assumption) (by assumption) | assumption | exact t4_alloc (by assumption) _ | exact t4_set hqc (by assumption))
  clear hK K
  try simp only [Act.put, List.setIfInBounds_toArray, List.set_cons_zero, List.set_cons_succ]
  refine wpAnyH_ready (rs := [7]) (by kernel_rfl) (by simp) ?_
  refine AllReadyH.cons (o := ?or1b1_7) ?ir1b1_7 (fun K hK => ?sr1b1_7) AllReadyH.nil
  case ir1b1_7 => (simp only [List.getElem?_toArray, List.getElem?_cons_succ, List.getElem?_cons_zero]; rfl)
  ((refine step_bl (by rfl) _ _ 60 (by rfl) B 25 Tryz.underlying60 Tryz.info_block (.slice A1 k c1) k cs (by rfl) (own_on H1.out hVb) b X3.heap.size 1 25 _ _ _ _ hN HBV.out (by rfl) (by omega) (by have := hVb.size; omega) ?_; intro v5 w5 hown5 hb5 hg5; obtain ⟨A5, c5, hv5, _, hq5⟩ := own_bls hown5; rw [← hq5] at hv5; subst hv5; clear hq5; have hqo : some q ≠ (Value.slice A1 k c1).ownBlock := (fun h => absurd (HNq.out q h.symm) (Nat.lt_irrefl _)); have hC5 := (HC.out.on hVb).grownR hg5 n1; have kC0 : w5.cell? ⟨cb, 0, none⟩ = some (.slice A1 k c1) := hC5.cell 0; have hf5 : w5.frozen? ⟨cb, 0, none⟩ = false := hC5.frozen 0; have hSn := (show _ ∧ _ ∧ _ ∧ _ ∧ True from ⟨hg5.cell hSn.1 hqo, hg5.cell hSn.2.1 hqo, hg5.cell hSn.2.2.1 hqo, hg5.cell hSn.2.2.2.1 hqo, trivial⟩)))
  refine hK.out _ _ ?kr1b1_7 (fun hHeld => ?_)
  case kr1b1_7 => (try dsimp only); (first | with_reducible assumption | with_reducible exact t4_set hqc (by assumption) | exact t4_bel (by assumption) (by assumption) | assumption | exact t4_alloc (by assumption) _ | exact t4_set hqc (by assumption))
  clear hK K
  try simp only [Act.put, List.setIfInBounds_toArray, List.set_cons_zero, List.set_cons_succ]
  refine tk 8 ?_
  refine tk 9 ?_
  refine wpAnyH_ready (rs := [10]) (by kernel_rfl) (by simp) ?_
  refine AllReadyH.cons (o := ?or1b1_10) ?ir1b1_10 (fun K hK => ?sr1b1_10) AllReadyH.nil
  case ir1b1_10 => (simp only [List.getElem?_toArray, List.getElem?_cons_succ, List.getElem?_cons_zero]; rfl)
  (go_simp; (skip))
  refine hK.out _ _ ?kr1b1_10 (fun hHeld => ?_)
  case kr1b1_10 => (try dsimp only); (first | with_reducible assumption | with_reducible exact t4_set hqc (by assumption) | exact t4_bel (by assumption) (by assumption) | assumption | exact t4_alloc (by assumption) _ | exact t4_set hqc (by assumption))
  clear hK K
  try simp only [Act.put, List.setIfInBounds_toArray, List.set_cons_zero, List.set_cons_succ]
  refine wpAnyH_done (by kernel_rfl) ?_ _
  refine NoPanic.normal ?_
 case' sr1_6 =>
  ((go_simp; refine RFresh.learnd (fun V hV hN => ?_); have hSn := t4_eqd hV hT5; have hVb : Below X3.heap.size X3 V := (by rw [hV]; exact bel_drew (bel_alloc (Below.refl _ _) _)); have hcV : V.cell? ⟨cb, 0, none⟩ = some (.slice A1 k c1) := (HC.out.on hVb).cell 0; clear hV))
  refine hK.out _ _ ?kr1_6 (fun hHeld => ?_)
  case kr1_6 => (try dsimp only); (first | with_reducible assumption | with_reducible exact t4_set hqc (by assumption) | exact t4_bel (by assumption) (by assumption) | assumption | exact t4_alloc (by assumption) _ | exact t4_set hqc (by assumption))
  clear hK K
  try simp only [Act.put, List.setIfInBounds_toArray, List.set_cons_zero, List.set_cons_succ]
  refine wpAnyH_ready (rs := [4]) (by kernel_rfl) (by simp) ?_
  refine AllReadyH.cons (o := ?or1b2_4) ?ir1b2_4 (fun K hK => ?sr1b2_4) AllReadyH.nil
  case ir1b2_4 => (simp only [List.getElem?_toArray, List.getElem?_cons_succ, List.getElem?_cons_zero]; rfl)
  (go_simp; (skip))
  refine hK.out _ _ ?kr1b2_4 (fun hHeld => ?_)
  case kr1b2_4 => (try dsimp only); (first | with_reducible assumption | with_reducible exact t4_set hqc (by assumption) | exact t4_bel (by assumption) (by assumption) | assumption | exact t4_alloc (by assumption) _ | exact t4_set hqc (by assumption))
  clear hK K
  try simp only [Act.put, List.setIfInBounds_toArray, List.set_cons_zero, List.set_cons_succ]
  refine wpAnyH_ready (rs := [7]) (by kernel_rfl) (by simp) ?_
  refine AllReadyH.cons (o := ?or1b2_7) ?ir1b2_7 (fun K hK => ?sr1b2_7) AllReadyH.nil
  case ir1b2_7 => (simp only [List.getElem?_toArray, List.getElem?_cons_succ, List.getElem?_cons_zero]; rfl)
  ((refine step_bl (by rfl) _ _ 60 (by rfl) B 25 Tryz.underlying60 Tryz.info_block (.slice A1 k c1) k cs (by rfl) (own_on H1.out hVb) b X3.heap.size 1 25 _ _ _ _ hN HBV.out (by rfl) (by omega) (by have := hVb.size; omega) ?_; intro v5 w5 hown5 hb5 hg5; obtain ⟨A5, c5, hv5, _, hq5⟩ := own_bls hown5; rw [← hq5] at hv5; subst hv5; clear hq5; have hqo : some q ≠ (Value.slice A1 k c1).ownBlock := (fun h => absurd (HNq.out q h.symm) (Nat.lt_irrefl _)); have hC5 := (HC.out.on hVb).grownR hg5 n1; have kC0 : w5.cell? ⟨cb, 0, none⟩ = some (.slice A1 k c1) := hC5.cell 0; have hf5 : w5.frozen? ⟨cb, 0, none⟩ = false := hC5.frozen 0; have hSn := (show _ ∧ _ ∧ _ ∧ _ ∧ True from ⟨hg5.cell hSn.1 hqo, hg5.cell hSn.2.1 hqo, hg5.cell hSn.2.2.1 hqo, hg5.cell hSn.2.2.2.1 hqo, trivial⟩)))
  refine hK.out _ _ ?kr1b2_7 (fun hHeld => ?_)
  case kr1b2_7 => (try dsimp only); (first | with_reducible assumption | with_reducible exact t4_set hqc (by assumption) | exact t4_bel (by assumption) (by assumption) | assumption | exact t4_alloc (by assumption) _ | exact t4_set hqc (by assumption))
  clear hK K
  try simp only [Act.put, List.setIfInBounds_toArray, List.set_cons_zero, List.set_cons_succ]
  refine tk 8 ?_
  refine tk 9 ?_
  refine wpAnyH_ready (rs := [10]) (by kernel_rfl) (by simp) ?_
  refine AllReadyH.cons (o := ?or1b2_10) ?ir1b2_10 (fun K hK => ?sr1b2_10) AllReadyH.nil
  case ir1b2_10 => (simp only [List.getElem?_toArray, List.getElem?_cons_succ, List.getElem?_cons_zero]; rfl)
  (go_simp; (skip))
  refine hK.out _ _ ?kr1b2_10 (fun hHeld => ?_)
  case kr1b2_10 => (try dsimp only); (first | with_reducible assumption | with_reducible exact t4_set hqc (by assumption) | exact t4_bel (by assumption) (by assumption) | assumption | exact t4_alloc (by assumption) _ | exact t4_set hqc (by assumption))
  clear hK K
  try simp only [Act.put, List.setIfInBounds_toArray, List.set_cons_zero, List.set_cons_succ]
  refine wpAnyH_done (by kernel_rfl) ?_ _
  refine NoPanic.normal ?_
 ·have hne5 := own_away hown5 hC5 (by decide)
  have hV2 := own_grownR (own_on H2.out hVb) hg5 (fun g h1 h2 => HN2.out g h2 h1)
  have hA2 := own_away hV2 hC5 (by decide)
  have hKq := (KB.out.on hVb).grownR hg5 hqo
  have hS1 := hid (ownsRow_setCell_other hown5 (a := ⟨cb, 0, none⟩) (fun h => hne5 h.symm) (.slice A5 (k + 1) c5))
  have hS2 := hid (ownsRow_setCell_other hV2 (a := ⟨cb, 0, none⟩) (fun h => hA2 h.symm) (.slice A5 (k + 1) c5))
  have hSC := hid (hC5.set_ 0 (.slice A5 (k + 1) c5))
  have hSK := hid (hKq.far 0 (.slice A5 (k + 1) c5) hqc)
  have hSB := hid ((K1.out.trans ((hVb.mono hBX).trans hb5)).setCell (p := ⟨cb, 0, none⟩) hB (.slice A5 (k + 1) c5))
  obtain ⟨X5, hX5⟩ : ∃ X, X = w5.setCell ⟨cb, 0, none⟩ (.slice A5 (k + 1) c5) := ⟨_, rfl⟩
  rw [← hX5] at hS1 hS2 hSC hSK hSB ⊢
  obtain ⟨d0, d1, d2, d3⟩ := hSK.out.cells4y
  obtain ⟨c0, c1', c2, c3⟩ := hSC.out.cells4y
  have hT6 : X5.cell? ⟨q, 0, none⟩ = some (.int .i64 nb) ∧ X5.cell? ⟨q, 1, none⟩ = some (.bool b.raw) ∧ X5.cell? ⟨q, 2, none⟩ = some (.int .i64 zl) ∧ X5.cell? ⟨q, 3, none⟩ = some (.string b.body) ∧ True := ⟨d0, d1, d2, d3, trivial⟩
  have hBX5 : B ≤ X5.heap.size := by have := hSB.out.size; omega
  have m2 := own_away hS2.out hSC.out (by decide)
  have m1 := own_away hS1.out hSC.out (by decide)
  have HN3 := hid (own_two hS2.out hS1.out (by decide))
  have mq := own_away hS2.out hSK.out (by decide)
  clear hX5 hown5 hb5 hg5 hqo hC5 kC0 hf5 hSn hVb hN hcV hne5 hV2 hA2 hKq hT5 d0 d1 d2 d3 n1 HC H1 H2 KB K1 HN2 hHeld
  go_wp2_with fail
  refine wp_region_noPanic ?_
  refine wp_region_held_drew (S := (fun v => v.cell? ⟨q, 0, none⟩ = some (.int .i64 nb) ∧ v.cell? ⟨q, 1, none⟩ = some (.bool b.raw) ∧ v.cell? ⟨q, 2, none⟩ = some (.int .i64 zl) ∧ v.cell? ⟨q, 3, none⟩ = some (.string b.body) ∧ True)) (by kernel_rfl) (t4_drew hT6) (fun hHeld => ?_)
  refine tk 0 ?_
  refine tk 1 ?_
  refine tk 2 ?_
  refine tk 3 ?_
  refine tk 5 ?_
  refine tk 6 ?_
  refine tk 7 ?_
  refine wpAnyH_ready (rs := [4, 8]) (by kernel_rfl) (by simp) ?_
  refine AllReadyH.cons (o := ?or2_4) ?ir2_4 (fun K hK => ?sr2_4) (AllReadyH.cons (o := ?or2_8) ?ir2_8 (fun K hK => ?sr2_8) AllReadyH.nil)
  case ir2_4 => (simp only [List.getElem?_toArray, List.getElem?_cons_succ, List.getElem?_cons_zero]; rfl)
  case ir2_8 => (simp only [List.getElem?_toArray, List.getElem?_cons_succ, List.getElem?_cons_zero]; rfl)
  case' sr2_4 =>
   (go_simp; (skip))
   refine hK.out _ _ ?kr2_4 (fun hHeld => ?_)
   case kr2_4 => (try dsimp only); (first | with_reducible assumption | with_reducible exact t4_set hqc (by assumption) | exact t4_bel (by assumption) (by assumption) | assumption | exact t4_alloc (by assumption) _ | exact t4_set hqc (by assumption))
   clear hK K
   try simp only [Act.put, List.setIfInBounds_toArray, List.set_cons_zero, List.set_cons_succ]
   refine wpAnyH_ready (rs := [8]) (by kernel_rfl) (by simp) ?_
   refine AllReadyH.cons (o := ?or2b1_8) ?ir2b1_8 (fun K hK => ?sr2b1_8) AllReadyH.nil
   case ir2b1_8 => (simp only [List.getElem?_toArray, List.getElem?_cons_succ, List.getElem?_cons_zero]; rfl)
   (go_simp; (skip))
   refine hK.out _ _ ?kr2b1_8 (fun hHeld => ?_)
   case kr2b1_8 => (try dsimp only); (first | with_reducible assumption | with_reducible exact t4_set hqc (by assumption) | exact t4_bel (by assumption) (by assumption) | assumption | exact t4_alloc (by assumption) _ | exact t4_set hqc (by assumption))
   clear hK K
   try simp only [Act.put, List.setIfInBounds_toArray, List.set_cons_zero, List.set_cons_succ]
   refine wpAnyH_ready (rs := [9]) (by kernel_rfl) (by simp) ?_
   refine AllReadyH.cons (o := ?or2b1_9) ?ir2b1_9 (fun K hK => ?sr2b1_9) AllReadyH.nil
   case ir2b1_9 => (simp only [List.getElem?_toArray, List.getElem?_cons_succ, List.getElem?_cons_zero]; rfl)
   ((go_simp; refine RFresh.learnd (fun V hV hN => ?_); have hSn := t4_eqd hV hT6; have hVb : Below X5.heap.size X5 V := (by rw [hV]; exact bel_drew (bel_alloc (Below.refl _ _) _)); have hcV : V.cell? ⟨cb, 1, none⟩ = some v2 := (hSC.out.on hVb).cell 1; clear hV))
   refine hK.out _ _ ?kr2b1_9 (fun hHeld => ?_)
   case kr2b1_9 => (try dsimp only); (first | with_reducible assumption | with_reducible exact t4_set hqc (by assumption) | exact t4_bel (by assumption) (by assumption) | assumption | exact t4_alloc (by assumption) _ | exact t4_set hqc (by assumption))
   clear hK K
   try simp only [Act.put, List.setIfInBounds_toArray, List.set_cons_zero, List.set_cons_succ]
   refine wpAnyH_ready (rs := [10]) (by kernel_rfl) (by simp) ?_
   refine AllReadyH.cons (o := ?or2b1_10) ?ir2b1_10 (fun K hK => ?sr2b1_10) AllReadyH.nil
   case ir2b1_10 => (simp only [List.getElem?_toArray, List.getElem?_cons_succ, List.getElem?_cons_zero]; rfl)
   ((refine step_pl (by rfl) _ _ 78 (by rfl) B 80 Tryz.underlying78 Tryz.info_placeD v2 k pl (by rfl) (own_on hS2.out hVb) ((a : Int), (z : Int)) X5.heap.size 1 80 _ _ hN (by rfl) (by rfl) (by omega) (by have := hVb.size; omega) ?_; intro v7 w7 hown7 hb7 hg7; obtain ⟨A7, c7, hv7, _, hq7, _⟩ := own_ps hown7; rw [← hq7] at hv7; subst hv7; clear hq7; have hC7 := (hSC.out.on hVb).grownR hg7 m2; have kC0 : w7.cell? ⟨cb, 1, none⟩ = some v2 := hC7.cell 1; have hf7 : w7.frozen? ⟨cb, 1, none⟩ = false := hC7.frozen 1; have hSn := (show _ ∧ _ ∧ _ ∧ _ ∧ True from ⟨hg7.cell hSn.1 mq, hg7.cell hSn.2.1 mq, hg7.cell hSn.2.2.1 mq, hg7.cell hSn.2.2.2.1 mq, trivial⟩)))
   refine hK.out _ _ ?kr2b1_10 (fun hHeld => ?_)
   case kr2b1_10 => (try dsimp only); (first | with_reducible assumption | with_reducible exact t4_set hqc (by assumption) | exact t4_bel (by assumption) (by assumption) | assumption | exact t4_alloc (by assumption) _ | exact t4_set hqc (by assumption))
   clear hK K
   try simp only [Act.put, List.setIfInBounds_toArray, List.set_cons_zero, List.set_cons_succ]
   refine tk 11 ?_
   refine tk 12 ?_
   refine wpAnyH_ready (rs := [13]) (by kernel_rfl) (by simp) ?_
   refine AllReadyH.cons (o := ?or2b1_13) ?ir2b1_13 (fun K hK => ?sr2b1_13) AllReadyH.nil
   case ir2b1_13 => (simp only [List.getElem?_toArray, List.getElem?_cons_succ, List.getElem?_cons_zero]; rfl)
   (go_simp; (skip))
   refine hK.out _ _ ?kr2b1_13 (fun hHeld => ?_)
   case kr2b1_13 => (try dsimp only); (first | with_reducible assumption | with_reducible exact t4_set hqc (by assumption) | exact t4_bel (by assumption) (by assumption) | assumption | exact t4_alloc (by assumption) _ | exact t4_set hqc (by assumption))
   clear hK K
   try simp only [Act.put, List.setIfInBounds_toArray, List.set_cons_zero, List.set_cons_succ]
   refine wpAnyH_done (by kernel_rfl) ?_ _
   refine NoPanic.normal ?_
  case' sr2_8 =>
   (go_simp; (skip))
   refine hK.out _ _ ?kr2_8 (fun hHeld => ?_)
   case kr2_8 => (try dsimp only); (first | with_reducible assumption | with_reducible exact t4_set hqc (by assumption) | exact t4_bel (by assumption) (by assumption) | assumption | exact t4_alloc (by assumption) _ | exact t4_set hqc (by assumption))
   clear hK K
   try simp only [Act.put, List.setIfInBounds_toArray, List.set_cons_zero, List.set_cons_succ]
   refine wpAnyH_ready (rs := [4, 9]) (by kernel_rfl) (by simp) ?_
   refine AllReadyH.cons (o := ?or2b2_4) ?ir2b2_4 (fun K hK => ?sr2b2_4) (AllReadyH.cons (o := ?or2b2_9) ?ir2b2_9 (fun K hK => ?sr2b2_9) AllReadyH.nil)
   case ir2b2_4 => (simp only [List.getElem?_toArray, List.getElem?_cons_succ, List.getElem?_cons_zero]; rfl)
   case ir2b2_9 => (simp only [List.getElem?_toArray, List.getElem?_cons_succ, List.getElem?_cons_zero]; rfl)
   case' sr2b2_4 =>
    (go_simp; (skip))
    refine hK.out _ _ ?kr2b2_4 (fun hHeld => ?_)
    case kr2b2_4 => (try dsimp only); (first | with_reducible assumption | with_reducible exact t4_set hqc (by assumption) | exact t4_bel (by assumption) (by assumption) | assumption | exact t4_alloc (by assumption) _ | exact t4_set hqc (by assumption))
    clear hK K
    try simp only [Act.put, List.setIfInBounds_toArray, List.set_cons_zero, List.set_cons_succ]
    refine wpAnyH_ready (rs := [9]) (by kernel_rfl) (by simp) ?_
    refine AllReadyH.cons (o := ?or2b2b3_9) ?ir2b2b3_9 (fun K hK => ?sr2b2b3_9) AllReadyH.nil
    case ir2b2b3_9 => (simp only [List.getElem?_toArray, List.getElem?_cons_succ, List.getElem?_cons_zero]; rfl)
    ((go_simp; refine RFresh.learnd (fun V hV hN => ?_); have hSn := t4_eqd hV hT6; have hVb : Below X5.heap.size X5 V := (by rw [hV]; exact bel_drew (bel_alloc (Below.refl _ _) _)); have hcV : V.cell? ⟨cb, 1, none⟩ = some v2 := (hSC.out.on hVb).cell 1; clear hV))
    refine hK.out _ _ ?kr2b2b3_9 (fun hHeld => ?_)
    case kr2b2b3_9 => (try dsimp only); (first | with_reducible assumption | with_reducible exact t4_set hqc (by assumption) | exact t4_bel (by assumption) (by assumption) | assumption | exact t4_alloc (by assumption) _ | exact t4_set hqc (by assumption))
    clear hK K
    try simp only [Act.put, List.setIfInBounds_toArray, List.set_cons_zero, List.set_cons_succ]
    refine wpAnyH_ready (rs := [10]) (by kernel_rfl) (by simp) ?_
    refine AllReadyH.cons (o := ?or2b2b3_10) ?ir2b2b3_10 (fun K hK => ?sr2b2b3_10) AllReadyH.nil
    case ir2b2b3_10 => (simp only [List.getElem?_toArray, List.getElem?_cons_succ, List.getElem?_cons_zero]; rfl)
    ((refine step_pl (by rfl) _ _ 78 (by rfl) B 80 Tryz.underlying78 Tryz.info_placeD v2 k pl (by rfl) (own_on hS2.out hVb) ((a : Int), (z : Int)) X5.heap.size 1 80 _ _ hN (by rfl) (by rfl) (by omega) (by have := hVb.size; omega) ?_; intro v7 w7 hown7 hb7 hg7; obtain ⟨A7, c7, hv7, _, hq7, _⟩ := own_ps hown7; rw [← hq7] at hv7; subst hv7; clear hq7; have hC7 := (hSC.out.on hVb).grownR hg7 m2; have kC0 : w7.cell? ⟨cb, 1, none⟩ = some v2 := hC7.cell 1; have hf7 : w7.frozen? ⟨cb, 1, none⟩ = false := hC7.frozen 1; have hSn := (show _ ∧ _ ∧ _ ∧ _ ∧ True from ⟨hg7.cell hSn.1 mq, hg7.cell hSn.2.1 mq, hg7.cell hSn.2.2.1 mq, hg7.cell hSn.2.2.2.1 mq, trivial⟩)))
    refine hK.out _ _ ?kr2b2b3_10 (fun hHeld => ?_)
    case kr2b2b3_10 => (try dsimp only); (first | with_reducible assumption | with_reducible exact t4_set hqc (by assumption) | exact t4_bel (by assumption) (by assumption) | assumption | exact t4_alloc (by assumption) _ | exact t4_set hqc (by assumption))
    clear hK K
    try simp only [Act.put, List.setIfInBounds_toArray, List.set_cons_zero, List.set_cons_succ]
    refine tk 11 ?_
    refine tk 12 ?_
    refine wpAnyH_ready (rs := [13]) (by kernel_rfl) (by simp) ?_
    refine AllReadyH.cons (o := ?or2b2b3_13) ?ir2b2b3_13 (fun K hK => ?sr2b2b3_13) AllReadyH.nil
    case ir2b2b3_13 => (simp only [List.getElem?_toArray, List.getElem?_cons_succ, List.getElem?_cons_zero]; rfl)
    (go_simp; (skip))
    refine hK.out _ _ ?kr2b2b3_13 (fun hHeld => ?_)
    case kr2b2b3_13 => (try dsimp only); (first | with_reducible assumption | with_reducible exact t4_set hqc (by assumption) | exact t4_bel (by assumption) (by assumption) | assumption | exact t4_alloc (by assumption) _ | exact t4_set hqc (by assumption))
    clear hK K
    try simp only [Act.put, List.setIfInBounds_toArray, List.set_cons_zero, List.set_cons_succ]
    refine wpAnyH_done (by kernel_rfl) ?_ _
    refine NoPanic.normal ?_
   case' sr2b2_9 =>
    ((go_simp; refine RFresh.learnd (fun V hV hN => ?_); have hSn := t4_eqd hV hT6; have hVb : Below X5.heap.size X5 V := (by rw [hV]; exact bel_drew (bel_alloc (Below.refl _ _) _)); have hcV : V.cell? ⟨cb, 1, none⟩ = some v2 := (hSC.out.on hVb).cell 1; clear hV))
    refine hK.out _ _ ?kr2b2_9 (fun hHeld => ?_)
    case kr2b2_9 => (try dsimp only); (first | with_reducible assumption | with_reducible exact t4_set hqc (by assumption) | exact t4_bel (by assumption) (by assumption) | assumption | exact t4_alloc (by assumption) _ | exact t4_set hqc (by assumption))
    clear hK K
    try simp only [Act.put, List.setIfInBounds_toArray, List.set_cons_zero, List.set_cons_succ]
    refine wpAnyH_ready (rs := [4]) (by kernel_rfl) (by simp) ?_
    refine AllReadyH.cons (o := ?or2b2b4_4) ?ir2b2b4_4 (fun K hK => ?sr2b2b4_4) AllReadyH.nil
    case ir2b2b4_4 => (simp only [List.getElem?_toArray, List.getElem?_cons_succ, List.getElem?_cons_zero]; rfl)
    (go_simp; (skip))
    refine hK.out _ _ ?kr2b2b4_4 (fun hHeld => ?_)
    case kr2b2b4_4 => (try dsimp only); (first | with_reducible assumption | with_reducible exact t4_set hqc (by assumption) | exact t4_bel (by assumption) (by assumption) | assumption | exact t4_alloc (by assumption) _ | exact t4_set hqc (by assumption))
    clear hK K
    try simp only [Act.put, List.setIfInBounds_toArray, List.set_cons_zero, List.set_cons_succ]
    refine wpAnyH_ready (rs := [10]) (by kernel_rfl) (by simp) ?_
    refine AllReadyH.cons (o := ?or2b2b4_10) ?ir2b2b4_10 (fun K hK => ?sr2b2b4_10) AllReadyH.nil
    case ir2b2b4_10 => (simp only [List.getElem?_toArray, List.getElem?_cons_succ, List.getElem?_cons_zero]; rfl)
    ((refine step_pl (by rfl) _ _ 78 (by rfl) B 80 Tryz.underlying78 Tryz.info_placeD v2 k pl (by rfl) (own_on hS2.out hVb) ((a : Int), (z : Int)) X5.heap.size 1 80 _ _ hN (by rfl) (by rfl) (by omega) (by have := hVb.size; omega) ?_; intro v7 w7 hown7 hb7 hg7; obtain ⟨A7, c7, hv7, _, hq7, _⟩ := own_ps hown7; rw [← hq7] at hv7; subst hv7; clear hq7; have hC7 := (hSC.out.on hVb).grownR hg7 m2; have kC0 : w7.cell? ⟨cb, 1, none⟩ = some v2 := hC7.cell 1; have hf7 : w7.frozen? ⟨cb, 1, none⟩ = false := hC7.frozen 1; have hSn := (show _ ∧ _ ∧ _ ∧ _ ∧ True from ⟨hg7.cell hSn.1 mq, hg7.cell hSn.2.1 mq, hg7.cell hSn.2.2.1 mq, hg7.cell hSn.2.2.2.1 mq, trivial⟩)))
    refine hK.out _ _ ?kr2b2b4_10 (fun hHeld => ?_)
    case kr2b2b4_10 => (try dsimp only); (first | with_reducible assumption | with_reducible exact t4_set hqc (by assumption) | exact t4_bel (by assumption) (by assumption) | assumption | exact t4_alloc (by assumption) _ | exact t4_set hqc (by assumption))
    clear hK K
    try simp only [Act.put, List.setIfInBounds_toArray, List.set_cons_zero, List.set_cons_succ]
    refine tk 11 ?_
    refine tk 12 ?_
    refine wpAnyH_ready (rs := [13]) (by kernel_rfl) (by simp) ?_
    refine AllReadyH.cons (o := ?or2b2b4_13) ?ir2b2b4_13 (fun K hK => ?sr2b2b4_13) AllReadyH.nil
    case ir2b2b4_13 => (simp only [List.getElem?_toArray, List.getElem?_cons_succ, List.getElem?_cons_zero]; rfl)
    (go_simp; (skip))
    refine hK.out _ _ ?kr2b2b4_13 (fun hHeld => ?_)
    case kr2b2b4_13 => (try dsimp only); (first | with_reducible assumption | with_reducible exact t4_set hqc (by assumption) | exact t4_bel (by assumption) (by assumption) | assumption | exact t4_alloc (by assumption) _ | exact t4_set hqc (by assumption))
    clear hK K
    try simp only [Act.put, List.setIfInBounds_toArray, List.set_cons_zero, List.set_cons_succ]
    refine wpAnyH_done (by kernel_rfl) ?_ _
    refine NoPanic.normal ?_
  all_goals
   have hne7 := own_away hown7 hC7 (by decide)
   have hV1 := own_grownR (own_on hS1.out hVb) hg7 (fun g h1 h2 => HN3.out g h2 h1)
   have hA1 := own_away hV1 hC7 (by decide)
   have hKq := (hSK.out.on hVb).grownR hg7 mq
   have gS2 := hid (ownsRow_setCell_other hown7 (a := ⟨cb, 1, none⟩) (fun h => hne7 h.symm) (.slice A7 (k + 1) c7))
   have gS1 := hid (ownsRow_setCell_other hV1 (a := ⟨cb, 1, none⟩) (fun h => hA1 h.symm) (.slice A7 (k + 1) c7))
   have gSC := hid (hC7.set_ 1 (.slice A7 (k + 1) c7))
   have gSK := hid (hKq.far 1 (.slice A7 (k + 1) c7) hqc)
   have gSB := hid ((hSB.out.trans ((hVb.mono hBX5).trans hb7)).setCell (p := ⟨cb, 1, none⟩) hB (.slice A7 (k + 1) c7))
   obtain ⟨X7, hX7⟩ : ∃ X, X = w7.setCell ⟨cb, 1, none⟩ (.slice A7 (k + 1) c7) := ⟨_, rfl⟩
   rw [← hX7] at gS1 gS2 gSC gSK gSB ⊢
   obtain ⟨d0, d1, d2, d3⟩ := gSK.out.cells4y
   have e0 : X7.cell? ⟨cb, 0, none⟩ = some (.slice A5 (k + 1) c5) := gSC.out.cell 0
   have e1 : X7.cell? ⟨cb, 1, none⟩ = some (.slice A7 (k + 1) c7) := gSC.out.cell 1
   have e2 : X7.cell? ⟨cb, 2, none⟩ = some (.int .i64 (a : Int)) := gSC.out.cell 2
   have e3 : X7.cell? ⟨cb, 3, none⟩ = some (.int .i64 (z : Int)) := gSC.out.cell 3
   have f2 : X7.frozen? ⟨cb, 2, none⟩ = false := gSC.out.frozen 2
   have f3 : X7.frozen? ⟨cb, 3, none⟩ = false := gSC.out.frozen 3
   have hqc' : ¬ (cb = q) := fun h => hqc h.symm
   clear hX7 hown7 hb7 hg7 hC7 kC0 hf7 hSn hVb hN hcV hne7 hV1 hA1 hKq hT6 c0 c1' c2 c3 m1 m2 mq HN3 hSC hS1 hS2 hSK hSB hHeld
   go_wp2_with fail
   go_region
   all_goals
    go_wp2_with fail
    have w1a := own_away gS1.out gSC.out (by decide)
    have w2a := own_away gS2.out gSC.out (by decide)
    go_ret
    exact ⟨_, _, rfl, ((gSC.out.set_ 2 _).set_ 3 _).drew, own_on (ownsRow_setCell_other (ownsRow_setCell_other gS1.out (a := ⟨cb, 2, none⟩) (fun h => w1a h.symm) _) (a := ⟨cb, 3, none⟩) (fun h => w1a h.symm) _) (bel_drew (Below.refl _ _)), own_on (ownsRow_setCell_other (ownsRow_setCell_other gS2.out (a := ⟨cb, 2, none⟩) (fun h => w2a h.symm) _) (a := ⟨cb, 3, none⟩) (fun h => w2a h.symm) _) (bel_drew (Below.refl _ _)), ((gSB.out.setCell (p := ⟨cb, 2, none⟩) hB _).setCell (p := ⟨cb, 3, none⟩) hB _).drew⟩
 ·have hne5 := own_away hown5 hC5 (by decide)
  have hV2 := own_grownR (own_on H2.out hVb) hg5 (fun g h1 h2 => HN2.out g h2 h1)
  have hA2 := own_away hV2 hC5 (by decide)
  have hKq := (KB.out.on hVb).grownR hg5 hqo
  have hS1 := hid (ownsRow_setCell_other hown5 (a := ⟨cb, 0, none⟩) (fun h => hne5 h.symm) (.slice A5 (k + 1) c5))
  have hS2 := hid (ownsRow_setCell_other hV2 (a := ⟨cb, 0, none⟩) (fun h => hA2 h.symm) (.slice A5 (k + 1) c5))
  have hSC := hid (hC5.set_ 0 (.slice A5 (k + 1) c5))
  have hSK := hid (hKq.far 0 (.slice A5 (k + 1) c5) hqc)
  have hSB := hid ((K1.out.trans ((hVb.mono hBX).trans hb5)).setCell (p := ⟨cb, 0, none⟩) hB (.slice A5 (k + 1) c5))
  obtain ⟨X5, hX5⟩ : ∃ X, X = w5.setCell ⟨cb, 0, none⟩ (.slice A5 (k + 1) c5) := ⟨_, rfl⟩
  rw [← hX5] at hS1 hS2 hSC hSK hSB ⊢
  obtain ⟨d0, d1, d2, d3⟩ := hSK.out.cells4y
  obtain ⟨c0, c1', c2, c3⟩ := hSC.out.cells4y
  have hT6 : X5.cell? ⟨q, 0, none⟩ = some (.int .i64 nb) ∧ X5.cell? ⟨q, 1, none⟩ = some (.bool b.raw) ∧ X5.cell? ⟨q, 2, none⟩ = some (.int .i64 zl) ∧ X5.cell? ⟨q, 3, none⟩ = some (.string b.body) ∧ True := ⟨d0, d1, d2, d3, trivial⟩
  have hBX5 : B ≤ X5.heap.size := by have := hSB.out.size; omega
  have m2 := own_away hS2.out hSC.out (by decide)
  have m1 := own_away hS1.out hSC.out (by decide)
  have HN3 := hid (own_two hS2.out hS1.out (by decide))
  have mq := own_away hS2.out hSK.out (by decide)
  clear hX5 hown5 hb5 hg5 hqo hC5 kC0 hf5 hSn hVb hN hcV hne5 hV2 hA2 hKq hT5 d0 d1 d2 d3 n1 HC H1 H2 KB K1 HN2 hHeld
  go_wp2_with fail
  refine wp_region_noPanic ?_
  refine wp_region_held_drew (S := (fun v => v.cell? ⟨q, 0, none⟩ = some (.int .i64 nb) ∧ v.cell? ⟨q, 1, none⟩ = some (.bool b.raw) ∧ v.cell? ⟨q, 2, none⟩ = some (.int .i64 zl) ∧ v.cell? ⟨q, 3, none⟩ = some (.string b.body) ∧ True)) (by kernel_rfl) (t4_drew hT6) (fun hHeld => ?_)
  refine tk 0 ?_
  refine tk 1 ?_
  refine tk 2 ?_
  refine tk 3 ?_
  refine tk 5 ?_
  refine tk 6 ?_
  refine tk 7 ?_
  refine wpAnyH_ready (rs := [4, 8]) (by kernel_rfl) (by simp) ?_
  refine AllReadyH.cons (o := ?or3_4) ?ir3_4 (fun K hK => ?sr3_4) (AllReadyH.cons (o := ?or3_8) ?ir3_8 (fun K hK => ?sr3_8) AllReadyH.nil)
  case ir3_4 => (simp only [List.getElem?_toArray, List.getElem?_cons_succ, List.getElem?_cons_zero]; rfl)
  case ir3_8 => (simp only [List.getElem?_toArray, List.getElem?_cons_succ, List.getElem?_cons_zero]; rfl)
  case' sr3_4 =>
   (go_simp; (skip))
   refine hK.out _ _ ?kr3_4 (fun hHeld => ?_)
   case kr3_4 => (try dsimp only); (first | with_reducible assumption | with_reducible exact t4_set hqc (by assumption) | exact t4_bel (by assumption) (by assumption) | assumption | exact t4_alloc (by assumption) _ | exact t4_set hqc (by assumption))
   clear hK K
   try simp only [Act.put, List.setIfInBounds_toArray, List.set_cons_zero, List.set_cons_succ]
   refine wpAnyH_ready (rs := [8]) (by kernel_rfl) (by simp) ?_
   refine AllReadyH.cons (o := ?or3b1_8) ?ir3b1_8 (fun K hK => ?sr3b1_8) AllReadyH.nil
   case ir3b1_8 => (simp only [List.getElem?_toArray, List.getElem?_cons_succ, List.getElem?_cons_zero]; rfl)
   (go_simp; (skip))
   refine hK.out _ _ ?kr3b1_8 (fun hHeld => ?_)
   case kr3b1_8 => (try dsimp only); (first | with_reducible assumption | with_reducible exact t4_set hqc (by assumption) | exact t4_bel (by assumption) (by assumption) | assumption | exact t4_alloc (by assumption) _ | exact t4_set hqc (by assumption))
   clear hK K
   try simp only [Act.put, List.setIfInBounds_toArray, List.set_cons_zero, List.set_cons_succ]
   refine wpAnyH_ready (rs := [9]) (by kernel_rfl) (by simp) ?_
   refine AllReadyH.cons (o := ?or3b1_9) ?ir3b1_9 (fun K hK => ?sr3b1_9) AllReadyH.nil
   case ir3b1_9 => (simp only [List.getElem?_toArray, List.getElem?_cons_succ, List.getElem?_cons_zero]; rfl)
   ((go_simp; refine RFresh.learnd (fun V hV hN => ?_); have hSn := t4_eqd hV hT6; have hVb : Below X5.heap.size X5 V := (by rw [hV]; exact bel_drew (bel_alloc (Below.refl _ _) _)); have hcV : V.cell? ⟨cb, 1, none⟩ = some v2 := (hSC.out.on hVb).cell 1; clear hV))
   refine hK.out _ _ ?kr3b1_9 (fun hHeld => ?_)
   case kr3b1_9 => (try dsimp only); (first | with_reducible assumption | with_reducible exact t4_set hqc (by assumption) | exact t4_bel (by assumption) (by assumption) | assumption | exact t4_alloc (by assumption) _ | exact t4_set hqc (by assumption))
   clear hK K
   try simp only [Act.put, List.setIfInBounds_toArray, List.set_cons_zero, List.set_cons_succ]
   refine wpAnyH_ready (rs := [10]) (by kernel_rfl) (by simp) ?_
   refine AllReadyH.cons (o := ?or3b1_10) ?ir3b1_10 (fun K hK => ?sr3b1_10) AllReadyH.nil
   case ir3b1_10 => (simp only [List.getElem?_toArray, List.getElem?_cons_succ, List.getElem?_cons_zero]; rfl)
   ((refine step_pl (by rfl) _ _ 78 (by rfl) B 80 Tryz.underlying78 Tryz.info_placeD v2 k pl (by rfl) (own_on hS2.out hVb) ((a : Int), (z : Int)) X5.heap.size 1 80 _ _ hN (by rfl) (by rfl) (by omega) (by have := hVb.size; omega) ?_; intro v7 w7 hown7 hb7 hg7; obtain ⟨A7, c7, hv7, _, hq7, _⟩ := own_ps hown7; rw [← hq7] at hv7; subst hv7; clear hq7; have hC7 := (hSC.out.on hVb).grownR hg7 m2; have kC0 : w7.cell? ⟨cb, 1, none⟩ = some v2 := hC7.cell 1; have hf7 : w7.frozen? ⟨cb, 1, none⟩ = false := hC7.frozen 1; have hSn := (show _ ∧ _ ∧ _ ∧ _ ∧ True from ⟨hg7.cell hSn.1 mq, hg7.cell hSn.2.1 mq, hg7.cell hSn.2.2.1 mq, hg7.cell hSn.2.2.2.1 mq, trivial⟩)))
   refine hK.out _ _ ?kr3b1_10 (fun hHeld => ?_)
   case kr3b1_10 => (try dsimp only); (first | with_reducible assumption | with_reducible exact t4_set hqc (by assumption) | exact t4_bel (by assumption) (by assumption) | assumption | exact t4_alloc (by assumption) _ | exact t4_set hqc (by assumption))
   clear hK K
   try simp only [Act.put, List.setIfInBounds_toArray, List.set_cons_zero, List.set_cons_succ]
   refine tk 11 ?_
   refine tk 12 ?_
   refine wpAnyH_ready (rs := [13]) (by kernel_rfl) (by simp) ?_
   refine AllReadyH.cons (o := ?or3b1_13) ?ir3b1_13 (fun K hK => ?sr3b1_13) AllReadyH.nil
   case ir3b1_13 => (simp only [List.getElem?_toArray, List.getElem?_cons_succ, List.getElem?_cons_zero]; rfl)
   (go_simp; (skip))
   refine hK.out _ _ ?kr3b1_13 (fun hHeld => ?_)
   case kr3b1_13 => (try dsimp only); (first | with_reducible assumption | with_reducible exact t4_set hqc (by assumption) | exact t4_bel (by assumption) (by assumption) | assumption | exact t4_alloc (by assumption) _ | exact t4_set hqc (by assumption))
   clear hK K
   try simp only [Act.put, List.setIfInBounds_toArray, List.set_cons_zero, List.set_cons_succ]
   refine wpAnyH_done (by kernel_rfl) ?_ _
   refine NoPanic.normal ?_
  case' sr3_8 =>
   (go_simp; (skip))
   refine hK.out _ _ ?kr3_8 (fun hHeld => ?_)
   case kr3_8 => (try dsimp only); (first | with_reducible assumption | with_reducible exact t4_set hqc (by assumption) | exact t4_bel (by assumption) (by assumption) | assumption | exact t4_alloc (by assumption) _ | exact t4_set hqc (by assumption))
   clear hK K
   try simp only [Act.put, List.setIfInBounds_toArray, List.set_cons_zero, List.set_cons_succ]
   refine wpAnyH_ready (rs := [4, 9]) (by kernel_rfl) (by simp) ?_
   refine AllReadyH.cons (o := ?or3b2_4) ?ir3b2_4 (fun K hK => ?sr3b2_4) (AllReadyH.cons (o := ?or3b2_9) ?ir3b2_9 (fun K hK => ?sr3b2_9) AllReadyH.nil)
   case ir3b2_4 => (simp only [List.getElem?_toArray, List.getElem?_cons_succ, List.getElem?_cons_zero]; rfl)
   case ir3b2_9 => (simp only [List.getElem?_toArray, List.getElem?_cons_succ, List.getElem?_cons_zero]; rfl)
   case' sr3b2_4 =>
    (go_simp; (skip))
    refine hK.out _ _ ?kr3b2_4 (fun hHeld => ?_)
    case kr3b2_4 => (try dsimp only); (first | with_reducible assumption | with_reducible exact t4_set hqc (by assumption) | exact t4_bel (by assumption) (by assumption) | assumption | exact t4_alloc (by assumption) _ | exact t4_set hqc (by assumption))
    clear hK K
    try simp only [Act.put, List.setIfInBounds_toArray, List.set_cons_zero, List.set_cons_succ]
    refine wpAnyH_ready (rs := [9]) (by kernel_rfl) (by simp) ?_
    refine AllReadyH.cons (o := ?or3b2b3_9) ?ir3b2b3_9 (fun K hK => ?sr3b2b3_9) AllReadyH.nil
    case ir3b2b3_9 => (simp only [List.getElem?_toArray, List.getElem?_cons_succ, List.getElem?_cons_zero]; rfl)
    ((go_simp; refine RFresh.learnd (fun V hV hN => ?_); have hSn := t4_eqd hV hT6; have hVb : Below X5.heap.size X5 V := (by rw [hV]; exact bel_drew (bel_alloc (Below.refl _ _) _)); have hcV : V.cell? ⟨cb, 1, none⟩ = some v2 := (hSC.out.on hVb).cell 1; clear hV))
    refine hK.out _ _ ?kr3b2b3_9 (fun hHeld => ?_)
    case kr3b2b3_9 => (try dsimp only); (first | with_reducible assumption | with_reducible exact t4_set hqc (by assumption) | exact t4_bel (by assumption) (by assumption) | assumption | exact t4_alloc (by assumption) _ | exact t4_set hqc (by assumption))
    clear hK K
    try simp only [Act.put, List.setIfInBounds_toArray, List.set_cons_zero, List.set_cons_succ]
    refine wpAnyH_ready (rs := [10]) (by kernel_rfl) (by simp) ?_
    refine AllReadyH.cons (o := ?or3b2b3_10) ?ir3b2b3_10 (fun K hK => ?sr3b2b3_10) AllReadyH.nil
    case ir3b2b3_10 => (simp only [List.getElem?_toArray, List.getElem?_cons_succ, List.getElem?_cons_zero]; rfl)
    ((refine step_pl (by rfl) _ _ 78 (by rfl) B 80 Tryz.underlying78 Tryz.info_placeD v2 k pl (by rfl) (own_on hS2.out hVb) ((a : Int), (z : Int)) X5.heap.size 1 80 _ _ hN (by rfl) (by rfl) (by omega) (by have := hVb.size; omega) ?_; intro v7 w7 hown7 hb7 hg7; obtain ⟨A7, c7, hv7, _, hq7, _⟩ := own_ps hown7; rw [← hq7] at hv7; subst hv7; clear hq7; have hC7 := (hSC.out.on hVb).grownR hg7 m2; have kC0 : w7.cell? ⟨cb, 1, none⟩ = some v2 := hC7.cell 1; have hf7 : w7.frozen? ⟨cb, 1, none⟩ = false := hC7.frozen 1; have hSn := (show _ ∧ _ ∧ _ ∧ _ ∧ True from ⟨hg7.cell hSn.1 mq, hg7.cell hSn.2.1 mq, hg7.cell hSn.2.2.1 mq, hg7.cell hSn.2.2.2.1 mq, trivial⟩)))
    refine hK.out _ _ ?kr3b2b3_10 (fun hHeld => ?_)
    case kr3b2b3_10 => (try dsimp only); (first | with_reducible assumption | with_reducible exact t4_set hqc (by assumption) | exact t4_bel (by assumption) (by assumption) | assumption | exact t4_alloc (by assumption) _ | exact t4_set hqc (by assumption))
    clear hK K
    try simp only [Act.put, List.setIfInBounds_toArray, List.set_cons_zero, List.set_cons_succ]
    refine tk 11 ?_
    refine tk 12 ?_
    refine wpAnyH_ready (rs := [13]) (by kernel_rfl) (by simp) ?_
    refine AllReadyH.cons (o := ?or3b2b3_13) ?ir3b2b3_13 (fun K hK => ?sr3b2b3_13) AllReadyH.nil
    case ir3b2b3_13 => (simp only [List.getElem?_toArray, List.getElem?_cons_succ, List.getElem?_cons_zero]; rfl)
    (go_simp; (skip))
    refine hK.out _ _ ?kr3b2b3_13 (fun hHeld => ?_)
    case kr3b2b3_13 => (try dsimp only); (first | with_reducible assumption | with_reducible exact t4_set hqc (by assumption) | exact t4_bel (by assumption) (by assumption) | assumption | exact t4_alloc (by assumption) _ | exact t4_set hqc (by assumption))
    clear hK K
    try simp only [Act.put, List.setIfInBounds_toArray, List.set_cons_zero, List.set_cons_succ]
    refine wpAnyH_done (by kernel_rfl) ?_ _
    refine NoPanic.normal ?_
   case' sr3b2_9 =>
    ((go_simp; refine RFresh.learnd (fun V hV hN => ?_); have hSn := t4_eqd hV hT6; have hVb : Below X5.heap.size X5 V := (by rw [hV]; exact bel_drew (bel_alloc (Below.refl _ _) _)); have hcV : V.cell? ⟨cb, 1, none⟩ = some v2 := (hSC.out.on hVb).cell 1; clear hV))
    refine hK.out _ _ ?kr3b2_9 (fun hHeld => ?_)
    case kr3b2_9 => (try dsimp only); (first | with_reducible assumption | with_reducible exact t4_set hqc (by assumption) | exact t4_bel (by assumption) (by assumption) | assumption | exact t4_alloc (by assumption) _ | exact t4_set hqc (by assumption))
    clear hK K
    try simp only [Act.put, List.setIfInBounds_toArray, List.set_cons_zero, List.set_cons_succ]
    refine wpAnyH_ready (rs := [4]) (by kernel_rfl) (by simp) ?_
    refine AllReadyH.cons (o := ?or3b2b4_4) ?ir3b2b4_4 (fun K hK => ?sr3b2b4_4) AllReadyH.nil
    case ir3b2b4_4 => (simp only [List.getElem?_toArray, List.getElem?_cons_succ, List.getElem?_cons_zero]; rfl)
    (go_simp; (skip))
    refine hK.out _ _ ?kr3b2b4_4 (fun hHeld => ?_)
    case kr3b2b4_4 => (try dsimp only); (first | with_reducible assumption | with_reducible exact t4_set hqc (by assumption) | exact t4_bel (by assumption) (by assumption) | assumption | exact t4_alloc (by assumption) _ | exact t4_set hqc (by assumption))
    clear hK K
    try simp only [Act.put, List.setIfInBounds_toArray, List.set_cons_zero, List.set_cons_succ]
    refine wpAnyH_ready (rs := [10]) (by kernel_rfl) (by simp) ?_
    refine AllReadyH.cons (o := ?or3b2b4_10) ?ir3b2b4_10 (fun K hK => ?sr3b2b4_10) AllReadyH.nil
    case ir3b2b4_10 => (simp only [List.getElem?_toArray, List.getElem?_cons_succ, List.getElem?_cons_zero]; rfl)
    ((refine step_pl (by rfl) _ _ 78 (by rfl) B 80 Tryz.underlying78 Tryz.info_placeD v2 k pl (by rfl) (own_on hS2.out hVb) ((a : Int), (z : Int)) X5.heap.size 1 80 _ _ hN (by rfl) (by rfl) (by omega) (by have := hVb.size; omega) ?_; intro v7 w7 hown7 hb7 hg7; obtain ⟨A7, c7, hv7, _, hq7, _⟩ := own_ps hown7; rw [← hq7] at hv7; subst hv7; clear hq7; have hC7 := (hSC.out.on hVb).grownR hg7 m2; have kC0 : w7.cell? ⟨cb, 1, none⟩ = some v2 := hC7.cell 1; have hf7 : w7.frozen? ⟨cb, 1, none⟩ = false := hC7.frozen 1; have hSn := (show _ ∧ _ ∧ _ ∧ _ ∧ True from ⟨hg7.cell hSn.1 mq, hg7.cell hSn.2.1 mq, hg7.cell hSn.2.2.1 mq, hg7.cell hSn.2.2.2.1 mq, trivial⟩)))
    refine hK.out _ _ ?kr3b2b4_10 (fun hHeld => ?_)
    case kr3b2b4_10 => (try dsimp only); (first | with_reducible assumption | with_reducible exact t4_set hqc (by assumption) | exact t4_bel (by assumption) (by assumption) | assumption | exact t4_alloc (by assumption) _ | exact t4_set hqc (by assumption))
    clear hK K
    try simp only [Act.put, List.setIfInBounds_toArray, List.set_cons_zero, List.set_cons_succ]
    refine tk 11 ?_
    refine tk 12 ?_
    refine wpAnyH_ready (rs := [13]) (by kernel_rfl) (by simp) ?_
    refine AllReadyH.cons (o := ?or3b2b4_13) ?ir3b2b4_13 (fun K hK => ?sr3b2b4_13) AllReadyH.nil
    case ir3b2b4_13 => (simp only [List.getElem?_toArray, List.getElem?_cons_succ, List.getElem?_cons_zero]; rfl)
    (go_simp; (skip))
    refine hK.out _ _ ?kr3b2b4_13 (fun hHeld => ?_)
    case kr3b2b4_13 => (try dsimp only); (first | with_reducible assumption | with_reducible exact t4_set hqc (by assumption) | exact t4_bel (by assumption) (by assumption) | assumption | exact t4_alloc (by assumption) _ | exact t4_set hqc (by assumption))
    clear hK K
    try simp only [Act.put, List.setIfInBounds_toArray, List.set_cons_zero, List.set_cons_succ]
    refine wpAnyH_done (by kernel_rfl) ?_ _
    refine NoPanic.normal ?_
  all_goals
   have hne7 := own_away hown7 hC7 (by decide)
   have hV1 := own_grownR (own_on hS1.out hVb) hg7 (fun g h1 h2 => HN3.out g h2 h1)
   have hA1 := own_away hV1 hC7 (by decide)
   have hKq := (hSK.out.on hVb).grownR hg7 mq
   have gS2 := hid (ownsRow_setCell_other hown7 (a := ⟨cb, 1, none⟩) (fun h => hne7 h.symm) (.slice A7 (k + 1) c7))
   have gS1 := hid (ownsRow_setCell_other hV1 (a := ⟨cb, 1, none⟩) (fun h => hA1 h.symm) (.slice A7 (k + 1) c7))
   have gSC := hid (hC7.set_ 1 (.slice A7 (k + 1) c7))
   have gSK := hid (hKq.far 1 (.slice A7 (k + 1) c7) hqc)
   have gSB := hid ((hSB.out.trans ((hVb.mono hBX5).trans hb7)).setCell (p := ⟨cb, 1, none⟩) hB (.slice A7 (k + 1) c7))
   obtain ⟨X7, hX7⟩ : ∃ X, X = w7.setCell ⟨cb, 1, none⟩ (.slice A7 (k + 1) c7) := ⟨_, rfl⟩
   rw [← hX7] at gS1 gS2 gSC gSK gSB ⊢
   obtain ⟨d0, d1, d2, d3⟩ := gSK.out.cells4y
   have e0 : X7.cell? ⟨cb, 0, none⟩ = some (.slice A5 (k + 1) c5) := gSC.out.cell 0
   have e1 : X7.cell? ⟨cb, 1, none⟩ = some (.slice A7 (k + 1) c7) := gSC.out.cell 1
   have e2 : X7.cell? ⟨cb, 2, none⟩ = some (.int .i64 (a : Int)) := gSC.out.cell 2
   have e3 : X7.cell? ⟨cb, 3, none⟩ = some (.int .i64 (z : Int)) := gSC.out.cell 3
   have f2 : X7.frozen? ⟨cb, 2, none⟩ = false := gSC.out.frozen 2
   have f3 : X7.frozen? ⟨cb, 3, none⟩ = false := gSC.out.frozen 3
   have hqc' : ¬ (cb = q) := fun h => hqc h.symm
   clear hX7 hown7 hb7 hg7 hC7 kC0 hf7 hSn hVb hN hcV hne7 hV1 hA1 hKq hT6 c0 c1' c2 c3 m1 m2 mq HN3 hSC hS1 hS2 hSK hSB hHeld
   go_wp2_with fail
   go_region
   all_goals
    go_wp2_with fail
    have w1a := own_away gS1.out gSC.out (by decide)
    have w2a := own_away gS2.out gSC.out (by decide)
    go_ret
    exact ⟨_, _, rfl, ((gSC.out.set_ 2 _).set_ 3 _).drew, own_on (ownsRow_setCell_other (ownsRow_setCell_other gS1.out (a := ⟨cb, 2, none⟩) (fun h => w1a h.symm) _) (a := ⟨cb, 3, none⟩) (fun h => w1a h.symm) _) (bel_drew (Below.refl _ _)), own_on (ownsRow_setCell_other (ownsRow_setCell_other gS2.out (a := ⟨cb, 2, none⟩) (fun h => w2a h.symm) _) (a := ⟨cb, 3, none⟩) (fun h => w2a h.symm) _) (bel_drew (Below.refl _ _)), ((gSB.out.setCell (p := ⟨cb, 2, none⟩) hB _).setCell (p := ⟨cb, 3, none⟩) hB _).drew⟩
end

section
open Go.ChangeShapes Go.WideShapes Go.ChangeAt Go.RowKit Go.Joins
set_option linter.unusedVariables false
set_option linter.unusedSimpArgs false

end

section
open Go.ChangeShapes Go.WideShapes Go.ChangeAt Go.RowKit Go.Joins
set_option linter.unusedVariables false
set_option linter.unusedSimpArgs false

/-- the places of blocks that follow each other -/
def pls (cs : List Bl) : List Pr := (List.range cs.length).map fun i => (((txt (cs.take i)).length : Int), (zs (cs.take i) : Int))
theorem pls_snoc (cs : List Bl) (b : Bl) : pls (cs ++ [b]) = pls cs ++ [(((txt cs).length : Int), (zs cs : Int))] := by
 rw [pls, pls, List.length_append, List.length_singleton, List.range_succ, List.map_append]
 congr 1
 ·apply List.map_congr_left
  intro i hi
  have : i ≤ cs.length := by have := List.mem_range.1 hi; omega
  rw [List.take_append_of_le_length this]
 ·simp
/-- the error of a reading's end -/
def ecV (a0 a1 a2 : Addr) (c : Nat) : Value := if c = 0 then .nilIface else if c = 1 then errV a0 else if c = 2 then errV a1 else errV a2

def slotN (w : World) (c : Nat) : Nat := match w.cell? ⟨c, 2, none⟩ with | some (.int _ n) => n.toNat | _ => 0
theorem slotN_eq {w : World} {c : Nat} {t : TypeId} {u v x : Value} {n : Nat} (h : Blk w c t #[u, v, .int .i64 (n : Int), x]) : slotN w c = n := by
 have h2 : w.cell? ⟨c, 2, none⟩ = some (.int .i64 (n : Int)) := h.cell 2
 rw [slotN, h2]; simp

set_option maxHeartbeats 4000000 in
set_option maxRecDepth 100000 in
theorem c_readAll (S : ByteArray) (L : List UInt8) (bs : List Bl) (c cb : Nat) (w0 w : World) (a0 a1 a2 : Addr) (hS : S.size ≤ 1000000000000) (hL : L = S.data.toList) (hst : Stop L bs c) (hG : Glob w0 a0 a1 a2) (hb0 : Below w0.heap.size w0 w) (hcb : w0.heap.size ≤ cb) (hC : Blk w cb 82 #[.slice none 0 0, .slice none 0 0, .int .i64 0, .int .i64 0]) : Calls Tryz.prog 108 #[.pointer (some ⟨cb, 0, none⟩), .string S] w fun e w' => ∃ u1 u2, e = .returned (ecV a0 a1 a2 c) ∧ Blk w' cb 82 #[u1, u2, .int .i64 ((txt bs).length : Nat), .int .i64 (zs bs : Nat)] ∧ w'.ownsRow w0.heap.size 25 4 u1 bs.length (bvs bs) ∧ w'.ownsRow w0.heap.size 80 2 u2 bs.length (prs (pls bs)) ∧ Below w0.heap.size w0 w' := by
 have hLl : L.length = S.size := by rw [hL]; simp
 have HST := hid hst
 have HLL := hid hLl
 have HLS := hid hL
 have HG := hid hG
 have HC := hid hC
 clear hst hLl hL hG hC
 go_enter Tryz.func108, Tryz.ntmps108
 go_wp2_with fail
 go_loopw [] (fun wr => ∃ (cs : List Bl) (v1 v2 : Value), Hid (Rdg L cs) ∧ zs cs ≤ 2000 ∧ Blk wr cb 82 #[v1, v2, .int .i64 ((txt cs).length : Nat), .int .i64 (zs cs : Nat)] ∧ wr.ownsRow w0.heap.size 25 4 v1 cs.length (bvs cs) ∧ wr.ownsRow w0.heap.size 80 2 v2 cs.length (prs (pls cs)) ∧ Below w0.heap.size w0 wr) (fun wr => S.size - (slotN wr cb))
 case atStart => exact ⟨[], _, _, hid (Rdg.nil _), by simp [zs], HC.out, World.ownsRow_nil _ _ _ _, own_ps_nil _ _ _, hb0⟩
 case round =>
  obtain ⟨cs, v1, v2, HR, hz, hC, h1, h2, hbl⟩ := hrel
  have h40 := HR.out.len_le
  have htl := HR.out.2.2
  rw [HLL.out] at htl
  obtain ⟨a, ha⟩ : ∃ a, a = (txt cs).length := ⟨_, rfl⟩
  obtain ⟨z, hzz⟩ : ∃ z, z = zs cs := ⟨_, rfl⟩
  rw [← ha] at htl hC
  rw [← hzz] at hz hC
  have HA := hid ha
  have HZ := hid hzz
  have HCr := hid hC
  obtain ⟨c0, c1, c2, c3⟩ := hC.cells4y
  have HGr := hid (HG.out.on hbl)
  have hszr := hbl.size
  obtain ⟨A1, q1, rfl, _, hq⟩ := own_bls h1
  have HH1 := hid h1
  have HH2 := hid h2
  clear ha hzz hC h1 h2 hq
  by_cases hlt : a < S.size
  ·cases hp : parse (S.data.toList.drop a) with
   | none =>
    have HN := hid (c_readNext_none S a z cb _ _ wr a0 a1 a2 hS htl HGr.out HCr.out hp)
    have hs1 : Stop L cs 1 := ⟨HR.out, by rw [← HZ.out]; exact hz, Or.inr ⟨by rw [← HA.out, HLL.out]; exact hlt, Or.inl ⟨rfl, by rw [← HA.out, HLS.out]; exact hp⟩⟩⟩
    obtain ⟨e1, e2⟩ := HST.out.one hs1
    subst e1 e2
    clear hp hs1
    go_wp2_with fail
    refine (HN.out).mono ?_
    rintro e w2 ⟨rfl, hb2⟩
    have hb3 := bel_trans hbl hb2
    clear c0 c1 c2 c3
    unfold errV
    go_wp2_with fail
    go_ret
    exact ⟨_, _, rfl, by rw [← HA.out, ← HZ.out]; exact HCr.out.on hb2, own_on HH1.out hb2, own_on HH2.out hb2, hb3⟩
   | some b =>
    obtain ⟨k, hk⟩ : ∃ k, k = cs.length := ⟨_, rfl⟩
    have HK := hid hk
    have hpL : parse (L.drop (txt cs).length) = some b := by rw [← HA.out, HLS.out]; exact hp
    have hltL : (txt cs).length < L.length := by rw [← HA.out, HLL.out]; exact hlt
    rw [← hk] at HCr HH1 HH2 h40
    by_cases hn : b.n = (k : Int)
    ·have hbz := (parse_len hp).1.2.1
     have hbs := Bl.len b (parse_len hp).1
     by_cases hl : 2000 < z + b.z.toNat
     ·have HN := hid (c_readNext_long S a z cb k _ _ _ b wr a0 a1 a2 hS htl HGr.out HCr.out hp (by omega) hn hz hl)
      have hs1 : Stop L cs 3 := ⟨HR.out, by rw [← HZ.out]; exact hz, Or.inr ⟨hltL, Or.inr ⟨b, hpL, Or.inr ⟨rfl, by rw [hn, hk], by rw [← HZ.out]; exact hl⟩⟩⟩⟩
      obtain ⟨e1, e2⟩ := HST.out.one hs1
      subst e1 e2
      rw [hk] at HCr HH1 HH2
      clear hp hs1 hpL hltL hn hk hbz hbs hl
      go_wp2_with fail
      refine (HN.out).mono ?_
      rintro e w2 ⟨rfl, hb2⟩
      have hb3 := bel_trans hbl hb2
      clear c0 c1 c2 c3
      unfold errV
      go_wp2_with fail
      go_ret
      exact ⟨_, _, rfl, by rw [← HA.out, ← HZ.out]; exact HCr.out.on hb2, own_on HH1.out hb2, own_on HH2.out hb2, hb3⟩
     ·have HN := hid (c_readNext_yes S a z cb k w0.heap.size _ _ cs (pls cs) b wr a0 a1 a2 hS htl HGr.out HCr.out HH1.out HH2.out hcb hp (by omega) hn hz (by omega))
      have HR2 := hid (show Rdg L (cs ++ [b]) from HR.out.next hpL (by rw [hn, hk]))
      have HZ2 := hid (show zs (cs ++ [b]) = z + b.z.toNat by rw [zs_snoc, HZ.out])
      have HA2 := hid (show (txt (cs ++ [b])).length = a + 10 + b.body.size by rw [txt_snoc, List.length_append, b.text_len, HA.out]; omega)
      have HK2 := hid (show (cs ++ [b]).length = k + 1 by simp [hk])
      have HP2 := hid (show pls (cs ++ [b]) = pls cs ++ [((a : Int), (z : Int))] by rw [pls_snoc, ← HA.out, ← HZ.out])
      have hSl := hid (slotN_eq HCr.out)
      have HL2 := hid (show z + b.z.toNat ≤ 2000 by omega)
      clear hp hpL hltL hn hk hl
      go_wp2_with fail
      refine (HN.out).mono ?_
      rintro e w2 ⟨u1, u2, rfl, hC2, g1, g2, hb2⟩
      have hb3 := hbl.trans hb2
      have hSl2 := hid (show slotN w2 cb = a + 10 + b.body.size from slotN_eq (n := a + 10 + b.body.size) hC2)
      have HC2 := hid hC2
      clear c0 c1 c2 c3 hC2
      go_wp2_with fail
      go_roundw
      case rel => exact ⟨cs ++ [b], u1, u2, HR2, by rw [HZ2.out]; exact HL2.out, by rw [HZ2.out, HA2.out, show ((z + b.z.toNat : Nat) : Int) = (z : Int) + b.z by omega]; exact HC2.out, by rw [HK2.out]; exact g1, by rw [HK2.out, HP2.out]; exact g2, hb3⟩
      case measure => rw [hSl.out, hSl2.out]; omega
    ·have HN := hid (c_readNext_num S a z cb k _ _ _ b wr a0 a1 a2 hS htl HGr.out HCr.out hp (by omega) hn)
     have hs1 : Stop L cs 2 := ⟨HR.out, by rw [← HZ.out]; exact hz, Or.inr ⟨hltL, Or.inr ⟨b, hpL, Or.inl ⟨rfl, by rw [← hk]; exact hn⟩⟩⟩⟩
     obtain ⟨e1, e2⟩ := HST.out.one hs1
     subst e1 e2
     rw [hk] at HCr HH1 HH2
     clear hp hs1 hpL hltL hn hk
     go_wp2_with fail
     refine (HN.out).mono ?_
     rintro e w2 ⟨rfl, hb2⟩
     have hb3 := bel_trans hbl hb2
     clear c0 c1 c2 c3
     unfold errV
     go_wp2_with fail
     go_ret
     exact ⟨_, _, rfl, by rw [← HA.out, ← HZ.out]; exact HCr.out.on hb2, own_on HH1.out hb2, own_on HH2.out hb2, hb3⟩
  ·have hs0 : Stop L cs 0 := ⟨HR.out, by rw [← HZ.out]; exact hz, Or.inl ⟨rfl, by have h8 := HA.out; have h9 := HLL.out; omega⟩⟩
   obtain ⟨e1, e2⟩ := HST.out.one hs0
   subst e1 e2
   clear hs0
   go_wp2_with fail
   go_ret
   exact ⟨_, _, rfl, by rw [← HA.out, ← HZ.out]; exact HCr.out, HH1.out, HH2.out, hbl⟩
end

section
open Go.ChangeShapes Go.WideShapes Go.ChangeAt Go.RowKit Go.Joins
set_option linter.unusedVariables false
set_option linter.unusedSimpArgs false

set_option maxHeartbeats 4000000 in
set_option maxRecDepth 100000 in
theorem c_readContainer (S : ByteArray) (L : List UInt8) (bs : List Bl) (c : Nat) (w : World) (a0 a1 a2 : Addr) (hS : S.size ≤ 1000000000000) (hL : L = S.data.toList) (hst : Stop L bs c) (hG : Glob w a0 a1 a2) : Calls Tryz.prog 72 #[.string S] w fun e w' => ∃ u1 u2, e = .returned (.tuple #[.agg (if c = 0 then #[u1, u2, .int .i64 ((txt bs).length : Nat), .int .i64 (zs bs : Nat)] else #[.slice none 0 0, .slice none 0 0, .int .i64 0, .int .i64 0]), ecV a0 a1 a2 c]) ∧ (c = 0 → w'.ownsRow w.heap.size 25 4 u1 bs.length (bvs bs) ∧ w'.ownsRow w.heap.size 80 2 u2 bs.length (prs (pls bs))) ∧ Below w.heap.size w w' := by
 have HB0 := hid (bel_alloc (bel_alloc (Below.refl _ w) (.cells #[.slice none 0 0, .slice none 0 0, .int .i64 0, .int .i64 0] 82)) (.cells #[.slice none 0 0, .slice none 0 0, .int .i64 0, .int .i64 0] 82))
 have HR := hid ((Blk.new w 82 #[.slice none 0 0, .slice none 0 0, .int .i64 0, .int .i64 0]).alloc (.cells #[.slice none 0 0, .slice none 0 0, .int .i64 0, .int .i64 0] 82))
 have HC := hid (Blk.top w (.cells #[.slice none 0 0, .slice none 0 0, .int .i64 0, .int .i64 0] 82) 82 #[.slice none 0 0, .slice none 0 0, .int .i64 0, .int .i64 0])
 have hsz : (w.alloc (.cells #[.slice none 0 0, .slice none 0 0, .int .i64 0, .int .i64 0] 82)).heap.size = w.heap.size + 1 := World.size_alloc _ _
 have HA := hid (c_readAll S L bs c (w.heap.size + 1) (w.alloc (.cells #[.slice none 0 0, .slice none 0 0, .int .i64 0, .int .i64 0] 82)) _ a0 a1 a2 hS hL hst (hG.on (bel_alloc (Below.refl _ w) _)) (bel_alloc (Below.refl _ _) _) (by omega) HC.out)
 rw [hsz] at HA
 have hcode := hst.code
 clear hst hG hsz
 go_enter Tryz.func72, Tryz.ntmps72
 go_wp2_with fail
 refine (HA.out).mono ?_
 rintro e w1 ⟨u1, u2, rfl, hC1, h1, h2, hb1⟩
 have hRB : Blk w1 w.heap.size 82 #[.slice none 0 0, .slice none 0 0, .int .i64 0, .int .i64 0] := (hb1.block w.heap.size (by omega)).trans (Blk.new w _ _)
 have HB1 := hid (show Below w.heap.size w w1 from (Below.mono (bel_alloc (Below.refl _ w) (.cells #[.slice none 0 0, .slice none 0 0, .int .i64 0, .int .i64 0] 82)) (Nat.le_refl _)).trans (hb1.mono (by omega)))
 have HW1 := hid (own_mono (B' := w.heap.size) h1 (by omega))
 have HW2 := hid (own_mono (B' := w.heap.size) h2 (by omega))
 have HRB := hid hRB
 obtain ⟨r0, r1, r2, r3⟩ := hRB.cells4y
 have f0 := hRB.frozen 0
 have f1 := hRB.frozen 1
 have f2 := hRB.frozen 2
 have f3 := hRB.frozen 3
 obtain ⟨c0, c1, c2, c3⟩ := hC1.cells4y
 clear hC1 h1 h2 hb1 hRB
 by_cases hc : c = 0
 ·subst hc
  obtain ⟨A1, q1, rfl, hh1, hh2⟩ := own_bls HW1.out
  obtain ⟨A2, q2, rfl, hh3, hh4, hh5⟩ := own_ps HW2.out
  clear hh1 hh2 hh3 hh4 hh5
  have n1 := own_away HW1.out HRB.out (by decide)
  have n2 := own_away HW2.out HRB.out (by decide)
  rw [show ecV a0 a1 a2 0 = .nilIface from rfl]
  go_wp2_with fail
  obtain ⟨Wz, hWz⟩ : ∃ Wz, Wz = ((((w1.setCell ⟨w.heap.size, 0, none⟩ (.slice A1 bs.length q1)).setCell ⟨w.heap.size, 1, none⟩ (.slice A2 (pls bs).length q2)).setCell ⟨w.heap.size, 2, none⟩ (.int .i64 ((txt bs).length : Nat))).setCell ⟨w.heap.size, 3, none⟩ (.int .i64 (zs bs : Nat))) := ⟨_, rfl⟩
  rw [← hWz]
  have KZ : Blk Wz w.heap.size 82 #[.slice A1 bs.length q1, .slice A2 (pls bs).length q2, .int .i64 ((txt bs).length : Nat), .int .i64 (zs bs : Nat)] := by rw [hWz]; exact HRB.out.put4y _ _ _ _
  have KB : Below w.heap.size w Wz := by rw [hWz]; exact bel_set (bel_set (bel_set (bel_set HB1.out (Nat.le_refl _) _) (Nat.le_refl _) _) (Nat.le_refl _) _) (Nat.le_refl _) _
  have G1 : Wz.ownsRow w.heap.size 25 4 (.slice A1 bs.length q1) bs.length (bvs bs) := by
   rw [hWz]
   exact ownsRow_setCell_other (ownsRow_setCell_other (ownsRow_setCell_other (ownsRow_setCell_other HW1.out (a := ⟨w.heap.size, 0, none⟩) (fun h => n1 h.symm) _) (a := ⟨w.heap.size, 1, none⟩) (fun h => n1 h.symm) _) (a := ⟨w.heap.size, 2, none⟩) (fun h => n1 h.symm) _) (a := ⟨w.heap.size, 3, none⟩) (fun h => n1 h.symm) _
  have G2 : Wz.ownsRow w.heap.size 80 2 (.slice A2 (pls bs).length q2) bs.length (prs (pls bs)) := by
   rw [hWz]
   exact ownsRow_setCell_other (ownsRow_setCell_other (ownsRow_setCell_other (ownsRow_setCell_other HW2.out (a := ⟨w.heap.size, 0, none⟩) (fun h => n2 h.symm) _) (a := ⟨w.heap.size, 1, none⟩) (fun h => n2 h.symm) _) (a := ⟨w.heap.size, 2, none⟩) (fun h => n2 h.symm) _) (a := ⟨w.heap.size, 3, none⟩) (fun h => n2 h.symm) _
  clear hWz r0 r1 r2 r3 f0 f1 f2 f3 c0 c1 c2 c3
  obtain ⟨z0, z1, z2, z3⟩ := KZ.cells4y
  exact bodyPost_ret (v := .tuple #[.agg #[.slice A1 bs.length q1, .slice A2 (pls bs).length q2, .int .i64 ((txt bs).length : Nat), .int .i64 (zs bs : Nat)], .nilIface]) (by simp [results, Tryz.results72, go_sem, z0, z1, z2, z3]) rfl ⟨_, _, rfl, ⟨G1, G2⟩, KB⟩
 ·obtain ⟨x, hx⟩ : ∃ x, ecV a0 a1 a2 c = errV x := by
   unfold ecV
   rw [if_neg hc]
   split
   ·exact ⟨_, rfl⟩
   ·split
    ·exact ⟨_, rfl⟩
    ·exact ⟨_, rfl⟩
  rw [hx]
  unfold errV
  go_wp2_with fail
  obtain ⟨Wz, hWz⟩ : ∃ Wz, Wz = ((((w1.setCell ⟨w.heap.size, 0, none⟩ (.slice none 0 0)).setCell ⟨w.heap.size, 1, none⟩ (.slice none 0 0)).setCell ⟨w.heap.size, 2, none⟩ (.int .i64 0)).setCell ⟨w.heap.size, 3, none⟩ (.int .i64 0)) := ⟨_, rfl⟩
  rw [← hWz]
  have KZ : Blk Wz w.heap.size 82 #[.slice none 0 0, .slice none 0 0, .int .i64 0, .int .i64 0] := by rw [hWz]; exact HRB.out.put4y _ _ _ _
  have KB : Below w.heap.size w Wz := by rw [hWz]; exact bel_set (bel_set (bel_set (bel_set HB1.out (Nat.le_refl _) _) (Nat.le_refl _) _) (Nat.le_refl _) _) (Nat.le_refl _) _
  clear hWz r0 r1 r2 r3 f0 f1 f2 f3 c0 c1 c2 c3
  obtain ⟨z0, z1, z2, z3⟩ := KZ.cells4y
  exact bodyPost_ret (v := .tuple #[.agg #[.slice none 0 0, .slice none 0 0, .int .i64 0, .int .i64 0], errV x]) (by simp [results, Tryz.results72, go_sem, z0, z1, z2, z3, errV]) rfl ⟨rfl, KB⟩
end

section
open Go.ChangeShapes Go.WideShapes Go.ChangeAt Go.RowKit Go.Joins
set_option linter.unusedVariables false
set_option linter.unusedSimpArgs false

theorem ecV_no (a0 a1 a2 : Addr) {c : Nat} (hc : ¬ c = 0) : ∃ x, ecV a0 a1 a2 c = errV x := by
 unfold ecV
 rw [if_neg hc]
 split
 ·exact ⟨_, rfl⟩
 ·split
  ·exact ⟨_, rfl⟩
  ·exact ⟨_, rfl⟩

/-- readContainer where the bytes are a container -/
theorem c_rc_yes {S : ByteArray} {L : List UInt8} {bs : List Bl} {w : World} {a0 a1 a2 : Addr} (hS : S.size ≤ 1000000000000) (hL : L = S.data.toList) (hst : Stop L bs 0) (hG : Glob w a0 a1 a2) : Calls Tryz.prog 72 #[.string S] w fun e w' => ∃ A1 q1 A2 q2, e = .returned (.tuple #[.agg #[.slice A1 bs.length q1, .slice A2 (pls bs).length q2, .int .i64 ((txt bs).length : Nat), .int .i64 (zs bs : Nat)], .nilIface]) ∧ w'.ownsRow w.heap.size 25 4 (.slice A1 bs.length q1) bs.length (bvs bs) ∧ w'.ownsRow w.heap.size 80 2 (.slice A2 (pls bs).length q2) bs.length (prs (pls bs)) ∧ Below w.heap.size w w' := by
 refine (c_readContainer S L bs 0 w a0 a1 a2 hS hL hst hG).mono ?_
 rintro e w1 ⟨u1, u2, rfl, hr, hb⟩
 obtain ⟨h1, h2⟩ := hr rfl
 obtain ⟨A1, q1, rfl, -, -⟩ := own_bls h1
 obtain ⟨A2, q2, rfl, -, -, -⟩ := own_ps h2
 exact ⟨A1, q1, A2, q2, rfl, h1, h2, hb⟩

/-- readContainer where they are none -/
theorem c_rc_no {S : ByteArray} {L : List UInt8} {bs : List Bl} {c : Nat} {w : World} {a0 a1 a2 : Addr} (hS : S.size ≤ 1000000000000) (hL : L = S.data.toList) (hst : Stop L bs c) (hc : ¬ c = 0) (hG : Glob w a0 a1 a2) : Calls Tryz.prog 72 #[.string S] w fun e w' => ∃ x, e = .returned (.tuple #[.agg #[.slice none 0 0, .slice none 0 0, .int .i64 0, .int .i64 0], .iface 212 (.pointer (some x))]) ∧ Below w.heap.size w w' := by
 refine (c_readContainer S L bs c w a0 a1 a2 hS hL hst hG).mono ?_
 rintro e w1 ⟨u1, u2, rfl, -, hb⟩
 obtain ⟨x, hx⟩ := ecV_no a0 a1 a2 hc
 rw [hx]
 simp only [if_neg hc]
 exact ⟨x, rfl, hb⟩
end
end Go.Proofs.YtmlaaammfnboiaaGreatDoor
