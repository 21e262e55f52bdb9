/- Rows of blocks, and a container's bytes in the program (parts of XYf and XTl, for claims that read no container). The layout of the header is as the program's text lays it. -/
import Derived.Test.YtmlaaammfnboiaaGreatDoorUb
import Derived.Test.YtmlaaammfnboiaaGreatDoorQy
import Derived.Test.YtmlaaammfnboiaaGreatDoorBb
namespace Go.Proofs.YtmlaaammfnboiaaGreatDoor
open Go.ChangeShapes Go.WideShapes Go.ChangeAt Go.RowKit Go.Joins
set_option linter.unusedVariables false
set_option linter.unusedSimpArgs false

def bv (b : Bl) : List Value := [.int .i64 b.n, .bool b.raw, .int .i64 b.z, .string b.body]

def bvs (l : List Bl) : List Value := l.flatMap bv

theorem bvs_cons (b : Bl) (l : List Bl) : bvs (b :: l) = bv b ++ bvs l := by simp [bvs]

theorem bvs_append (l r : List Bl) : bvs (l ++ r) = bvs l ++ bvs r := by simp [bvs]

theorem bvs_len (l : List Bl) : (bvs l).length = l.length * 4 := by
  induction l with
  | nil => rfl
  | cons b l ih => rw [bvs_cons, List.length_append, ih]; simp [bv]; omega

theorem bvs_get (l : List Bl) (i : Nat) (b : Bl) (h : l[i]? = some b) (k : Nat) (hk : k < 4) : (bvs l)[i * 4 + k]? = (bv b)[k]? := by
  induction l generalizing i with
  | nil => simp at h
  | cons c l ih =>
    rw [bvs_cons]
    cases i with
    | zero =>
      simp at h; subst h
      rw [List.getElem?_append_left (by simp [bv]; omega)]
      simp
    | succ i =>
      rw [List.getElem?_append_right (by simp [bv]; omega)]
      have := ih i (by simpa using h)
      rw [← this]
      congr 1
      simp [bv]; omega

def BlsAt (w : World) (L : Nat) (A : Option Addr) (cap : Nat) (l : List Bl) : Prop :=
  l.length ≤ cap ∧ cap ≤ maxLen ∧ (A = none → cap = 0) ∧ (0 < l.length → ∃ g off, A = some ⟨g, off, none⟩ ∧ g < L ∧ ∀ i b, l[i]? = some b → w.cell? ⟨g, off + i * 4, none⟩ = some (.int .i64 b.n) ∧ w.cell? ⟨g, off + i * 4 + 1, none⟩ = some (.bool b.raw) ∧ w.cell? ⟨g, off + i * 4 + 2, none⟩ = some (.int .i64 b.z) ∧ w.cell? ⟨g, off + i * 4 + 3, none⟩ = some (.string b.body))

theorem BlsAt.keep {w w' : World} {L cap : Nat} {A : Option Addr} {l : List Bl} (h : BlsAt w L A cap l) (hk : ∀ k, k < L → w'.heap[k]? = w.heap[k]?) : BlsAt w' L A cap l :=
  ⟨h.1, h.2.1, h.2.2.1, fun hn => by
    obtain ⟨b, off, e, hb, hc⟩ := h.2.2.2 hn
    refine ⟨b, off, e, hb, fun i p hi => ?_⟩
    have h1 := hc i p hi
    exact ⟨(World.cell?_of_block (a := ⟨b, off + i * 4, none⟩) (hk b hb)).trans h1.1, (World.cell?_of_block (a := ⟨b, off + i * 4 + 1, none⟩) (hk b hb)).trans h1.2.1, (World.cell?_of_block (a := ⟨b, off + i * 4 + 2, none⟩) (hk b hb)).trans h1.2.2.1, (World.cell?_of_block (a := ⟨b, off + i * 4 + 3, none⟩) (hk b hb)).trans h1.2.2.2⟩⟩

theorem BlsAt.below {w w' : World} {L B cap : Nat} {A : Option Addr} {l : List Bl} (h : BlsAt w L A cap l) (hb : Below B w w') (hL : L ≤ B) : BlsAt w' L A cap l :=
  h.keep fun k hk => hb.block k (by omega)

theorem BlsAt.nil (w : World) (L : Nat) : BlsAt w L none 0 [] := ⟨by simp, by simp [maxLen], fun _ => rfl, fun h => by simp at h⟩

theorem bl_at {w : World} {L cap : Nat} {A : Option Addr} {l : List Bl} (h : BlsAt w L A cap l) (i : Nat) (hi : i < l.length) : ∃ g off, A = some ⟨g, off, none⟩ ∧ g < L ∧ w.cell? ⟨g, off + i * 4, none⟩ = some (.int .i64 l[i].n) ∧ w.cell? ⟨g, off + i * 4 + 1, none⟩ = some (.bool l[i].raw) ∧ w.cell? ⟨g, off + i * 4 + 2, none⟩ = some (.int .i64 l[i].z) ∧ w.cell? ⟨g, off + i * 4 + 3, none⟩ = some (.string l[i].body) := by
  obtain ⟨g, off, e, hg, hc⟩ := h.2.2.2 (by omega)
  have := hc i l[i] (List.getElem?_eq_getElem hi)
  exact ⟨g, off, e, hg, this.1, this.2.1, this.2.2.1, this.2.2.2⟩

theorem own_bls {w : World} {B : Nat} {e : TypeId} {v : Value} {n : Nat} {l : List Bl} (h : w.ownsRow B e 4 v n (bvs l)) : ∃ A cap, v = .slice A l.length cap ∧ BlsAt w w.heap.size A cap l ∧ n = l.length := by
  have hl := h.1
  rw [bvs_len] at hl
  have hn : n = l.length := by omega
  subst hn
  have hlt := h.lt
  rcases h.2 with ⟨rfl, h0⟩ | ⟨g, cap, cur, rfl, hb, hh, hnc, hcm, hsz, htk⟩
  · have : l = [] := List.length_eq_zero_iff.1 h0
    subst this
    exact ⟨none, 0, rfl, BlsAt.nil _ _, rfl⟩
  · have hg := hlt g rfl
    refine ⟨some ⟨g, 0, none⟩, cap, rfl, ⟨hnc, hcm, by simp, fun hn => ⟨g, 0, rfl, hg.2, fun i p hi => ?_⟩⟩, rfl⟩
    have hi2 := get_lt hi
    have c0 := h.cellAt (i * 4 + 0) (by omega)
    have c1 := h.cellAt (i * 4 + 1) (by omega)
    have c2 := h.cellAt (i * 4 + 2) (by omega)
    have c3 := h.cellAt (i * 4 + 3) (by omega)
    rw [bvs_get l i p hi 0 (by omega)] at c0
    rw [bvs_get l i p hi 1 (by omega)] at c1
    rw [bvs_get l i p hi 2 (by omega)] at c2
    rw [bvs_get l i p hi 3 (by omega)] at c3
    simp only [Nat.zero_add]
    exact ⟨c0, c1, c2, c3⟩

theorem bl_new (w : World) (x y z u : Value) (t : TypeId) (b : Bl) (hx : [x, y, z, u] = bv b) : ∀ j q, (bv b)[j]? = some q → (w.alloc (.cells #[x, y, z, u] t)).cell? ((⟨w.heap.size, 0, none⟩ : Addr).add j) = some q := by
  rw [← hx]
  intro j q hj
  have hN := Blk.new w t #[x, y, z, u]
  have h := hN.cell j
  have e : (⟨w.heap.size, 0, none⟩ : Addr).add j = ⟨w.heap.size, j, none⟩ := by simp [Addr.add]; intro h; exact h.symm
  rw [e, h]
  simpa using hj

theorem Tryz.info_block : (Tryz.prog.info? 25).map (fun i => (i.zero, i.size, i.bytes)) = some (some (.agg #[.int .i64 0, .bool false, .int .i64 0, .string ByteArray.empty]), 4, 40) := by kernel_rfl

/-- 'out = append(out, b)' of one block, out the call's own: ONE goal is left. -/
theorem app_bl {P : Program} {w : World} {ops : Array Oper} {rest : List Oper} {o : Oper} {a : Act} {Q : Exit → Act → World → Prop} (hgd : o.guard = none) (s x : Operand) (t : TypeId)
    (ho : o.op = .call { callee := .builtin .append, args := #[s, x], argTypes := #[t, t] }) (B : Nat) (e : TypeId) (ht : P.underlying t = some (.slice e))
    (hinfo : (P.info? e).map (fun i => (i.zero, i.size, i.bytes)) = some (some (.agg #[.int .i64 0, .bool false, .int .i64 0, .string ByteArray.empty]), 4, 40)) (v : Value) (n : Nat) (l : List Bl) (hs : a.eval s = v) (hown : w.ownsRow B e 4 v n (bvs l)) (b : Bl) (X Y Z U : Value) (hX : [X, Y, Z, U] = bv b) (cp : Nat)
    (hx : a.eval x = .slice (some ⟨w.heap.size, 0, none⟩) 1 cp) (hn : n ≤ 1000000000) (hB : B ≤ w.heap.size)
    (h : ∀ v' w', w'.ownsRow B e 4 v' (n + 1) (bvs (l ++ [b])) → Below B w w' → w.grownBy w' v.ownBlock → wpList P ops Q rest (a.put o.dst v') w') : wpList P ops Q (o :: rest) a (w.alloc (.cells #[X, Y, Z, U] e)) := by
  obtain ⟨i0, hi, hz0, hz1, hz2⟩ := info_parts hinfo
  refine wpList_append_own _ hgd s x t ho B e i0 (.agg #[.int .i64 0, .bool false, .int .i64 0, .string ByteArray.empty]) 4 40 ht hi hz0 hz1 hz2 rfl (by decide) v n (bvs l) hs (hown.alloc _) ⟨w.heap.size, 0, none⟩ 1 cp (bv b) hx rfl (bl_new w _ _ _ _ e b hX) ?_ ?_ (by omega) ?_ ?_
  · intro u hu; simp [bv] at hu; rcases hu with rfl | rfl | rfl | rfl <;> rfl
  · unfold maxLen; omega
  · have := World.size_alloc w (.cells #[X, Y, Z, U] e); omega
  · intro v' w' hown' hg _
    have hg2 : w.grownBy w' v.ownBlock := grown_trans (World.grownBy_alloc w _ _) hg
    refine h v' w' ?_ (below_of_grown hg2 hB (fun g hg => (hown.lt g hg).1)) hg2
    rw [bvs_append, show bvs [b] = bv b from by simp [bvs]]; exact hown'

/-- k is how many of the first n things hold until one does not -/
def Agr (f : Nat → Bool) (n k : Nat) : Prop := k ≤ n ∧ (∀ i, i < k → f i = true) ∧ (k = n ∨ f k = false)

theorem Agr.lt {f : Nat → Bool} {n k i : Nat} (h : Agr f n k) (hi : i ≤ k) (hf : i < n → f i = true) (hn : i < n) : i < k := by
  rcases h.2.2 with e | e
  · omega
  · by_cases h2 : i = k
    · subst h2
      rw [hf hn] at e
      exact absurd e (by simp)
    · omega

theorem app_str8 {P : Program} {w : World} {ops : Array Oper} {rest : List Oper} {o : Oper} {a : Act} {Q : Exit → Act → World → Prop} (hgd : o.guard = none) (sl x : Operand) (t u : TypeId)
    (ho : o.op = .call { callee := .builtin .append, args := #[sl, x], argTypes := #[t, u] }) (B : Nat) (e : TypeId) (ht : P.underlying t = some (.slice e)) (hu : P.underlying u = some .string)
    (hinfo : (P.info? e).map (fun i => (i.zero, i.size, i.bytes)) = some (some (.int .u8 0), 1, 1)) (v : Value) (n : Nat) (l : List UInt8) (hs : a.eval sl = v) (hown : w.ownsRow B e 1 v n (l.map vb)) (s : ByteArray) (hx : a.eval x = .string s)
    (hn : n + s.size ≤ 100000000000) (hB : B ≤ w.heap.size)
    (h : ∀ v' w', w'.ownsRow B e 1 v' (n + s.size) ((l ++ s.data.toList).map vb) → Below B w w' → w.grownBy w' v.ownBlock → wpList P ops Q rest (a.put o.dst v') w') : wpList P ops Q (o :: rest) a w := by
  refine wpList_plain hgd fun K hK => ?_
  obtain ⟨i0, hi, hz0, hz1, hz2⟩ := info_parts hinfo
  obtain ⟨v', w', hr, hown', hg, _⟩ := Lib.run_append_own_string (P := P) w B t u o.type e i0 ht hu hi hz0 hz1 hz2 v n (l.map vb) hown s (by unfold maxLen; omega) (by omega) hB
  unfold Oper.wp execOp
  simp only [ho, resolve, invoke, builtin, Sem.run_bind, Sem.run_pure, Result.andThen_ok, List.map_toArray, List.map_cons, List.map_nil, hs, hx, hr]
  exact hK _ _ (h v' w' (by rw [List.map_append]; exact hown') (below_of_grown hg hB (fun g hg => (hown.lt g hg).1)) hg)

set_option maxHeartbeats 4000000 in
set_option maxRecDepth 100000 in
theorem c_containerBytes (A : Option Addr) (cap : Nat) (l : List Bl) (L : Nat) (w : World) (h : BlsAt w L A cap l) (hL : L ≤ w.heap.size) (hn : l.length ≤ 40) (hok : ∀ b ∈ l, b.ok) (hLy : Lay w) : Calls Tryz.prog 44 #[.slice A l.length cap] w fun e w' => e = .returned (.string (str (txt l))) ∧ Below w.heap.size w w' := by
  obtain ⟨N, hN⟩ : ∃ N, N = l.length := ⟨_, rfl⟩
  have HN := hid hN
  have HOK := hid hok
  have HLy := hid hLy
  have HH := hid h
  rw [← hN] at hn ⊢
  clear hN hok hLy h
  go_enter Tryz.func44, Tryz.ntmps44
  go_wp2_with fail
  go_loopw [3, 8] (fun v i wr => ∃ (k : Nat), k ≤ N ∧ i = .int .i64 k ∧ wr.ownsRow w.heap.size 5 1 v (txt (l.take k)).length ((txt (l.take k)).map vb) ∧ (txt (l.take k)).length ≤ 74 * k ∧ Below w.heap.size w wr) (fun _ i _ => N - (intOf i).toNat)
  case atStart => exact ⟨0, Nat.zero_le _, rfl, own_nil _ _ _, by simp [txt], by exact obB⟩
  case round =>
    obtain ⟨k, hk, rfl, hown, hlen, hbl⟩ := hrel
    by_cases hlt : k < N
    · have hlt2 : k < l.length := by have := HN.out; omega
      obtain ⟨b, off, rfl, hb0, hc0, hc1, hc2, hc3⟩ := bl_at (HH.out.below hbl hL) k hlt2
      have hpo := HOK.out _ (List.getElem_mem hlt2)
      have HT := hid (show txt (l.take (k + 1)) = txt (l.take k) ++ l[k].text by rw [List.take_succ_eq_append_getElem hlt2, txt_snoc])
      obtain ⟨p, hp⟩ : ∃ p, p = l[k] := ⟨_, rfl⟩
      rw [← hp] at hc0 hc1 hc2 hc3 hpo HT
      clear hp hlt2
      have hl2 := (p.len hpo).2
      have hl3 := p.text_len
      have HC := hid (fun (v : World) (hv : Lay v) => c_blockBytes p v hpo hv)
      obtain ⟨X, hX⟩ : ∃ X, X = str p.text := ⟨_, rfl⟩
      rw [← hX] at HC
      have zX : X.size ≤ 74 := by rw [hX, str_size]; omega
      have HX := hid (show X.data.toList = p.text by rw [hX]; exact str_list _)
      clear hX
      obtain ⟨p0, p1, p2, p3⟩ := p
      simp only at hc0 hc1 hc2 hc3 HC
      clear hpo hl2 hl3
      have hO := hid hown
      have hz := hbl.size
      have hRB := Blk.new wr 25 #[.int .i64 0, .bool false, .int .i64 0, .string ByteArray.empty]
      obtain ⟨s0, s1, s2, s3⟩ := hRB.cells4y
      have f0 := hRB.frozen 0
      have f1 := hRB.frozen 1
      have f2 := hRB.frozen 2
      have f3 := hRB.frozen 3
      clear hRB hown
      go_wp2_with fail
      have hb1 : Below wr.heap.size wr (wr.alloc (.cells #[.int .i64 p0, .bool p1, .int .i64 p2, .string p3] 25)) := bel_alloc (Below.refl _ wr) _
      refine (HC.out _ (HLy.out.on (hbl.trans (hb1.mono hz)))).mono ?_
      rintro e w2 ⟨rfl, hb2⟩
      have hb12 := hb1.trans (hb2.mono hb1.size)
      have hbl2 := hbl.trans (hb12.mono hz)
      have hz2 := hbl2.size
      have HO2 := hid (own_on hO.out hb12)
      clear hb1 hb2 s0 s1 s2 s3 f0 f1 f2 f3 hc0 hc1 hc2 hc3
      go_wp2_with (at_builtin; refine app_str8 rfl _ _ 98 9 rfl w.heap.size 5 Tryz.underlying98 Tryz.underlying9 Tryz.info_u8y _ (txt (l.take k)).length (txt (l.take k)) rfl HO2.out X rfl (by omega) hz2 ?_; intro v4 w4 hown4 hb4 hg4)
      rw [HX.out, ← HT.out] at hown4
      have hln : (txt (l.take k)).length + X.size = (txt (l.take (k + 1))).length := by
        rw [HT.out, List.length_append, ← HX.out]; rfl
      rw [hln] at hown4
      go_roundw
      case rel => exact ⟨k + 1, by omega, by go_num, hown4, by omega, hbl2.trans hb4⟩
      case measure => simp [intOf]; omega
    · have hkN : k = N := by omega
      have HE := hid (show txt (l.take k) = txt l by rw [List.take_of_length_le (by have := HN.out; omega)])
      rw [HE.out] at hown
      have hrs := run_str (P := Tryz.prog) Tryz.underlying98 Tryz.underlying5 Tryz.underlying9 hown
      clear hkN hlen
      go_wp2_with fail
      go_ret
      exact ⟨rfl, hbl⟩
end Go.Proofs.YtmlaaammfnboiaaGreatDoor
