/- Slices of numbers: in memory, owned, made, appended to; the laws' own helpers on them. No condition but that they are not too long. Where an append puts its row: the same block, or a new one. No condition. A trail in memory. No condition. The contract of a trail's step, where it says no. No condition but that the trail is valid. What stores and appends make of a trail in memory. No condition. What a call of follow makes of a trail in memory. No condition. The contract of a trail's step at the end code. No condition but that the trail is valid. The contract of a trail's step at the clear code. No condition but that the trail is valid. The contract of a trail's step at a code with a word. No condition but that the trail is valid. The contract of a trail's step, and of trailOf. No condition but that the numbers are int's. -/
import Derived.Test.YtmlaaammfnboiaaGreatDoorChecked
import Derived.Test.YtmlaaammfnboiaaGreatDoorBb
import Derived.Test.YtmlaaammfnboiaaGreatDoorBa
import Derived.Test.YtmlaaammfnboiaaGreatDoorBf
namespace Go.Proofs.YtmlaaammfnboiaaGreatDoor
section
open Go.ChangeShapes Go.WideShapes Go.ChangeAt Go.RowKit Go.Joins
set_option linter.unusedVariables false

def iv (n : Int) : Value := .int .i64 n
/-- A slice of numbers, in a block below L. -/
def NumsAt (w : World) (L : Nat) (A : Option Addr) (cap : Nat) (l : List Int) : Prop :=
 l.length ≤ cap ∧ cap ≤ maxLen ∧ (A = none → cap = 0) ∧ (0 < l.length → ∃ b off, A = some ⟨b, off, none⟩ ∧ b < L ∧ ∀ i n, l[i]? = some n → w.cell? ⟨b, off + i, none⟩ = some (.int .i64 n))
theorem NumsAt.keep {w w' : World} {L cap : Nat} {A : Option Addr} {l : List Int} (h : NumsAt w L A cap l) (hk : ∀ k, k < L → w'.heap[k]? = w.heap[k]?) : NumsAt w' L A cap l :=
 ⟨h.1, h.2.1, h.2.2.1, fun hn => by
  obtain ⟨b, off, e, hb, hc⟩ := h.2.2.2 hn
  exact ⟨b, off, e, hb, fun i p hi => (World.cell?_of_block (a := ⟨b, off + i, none⟩) (hk b hb)).trans (hc i p hi)⟩⟩
theorem NumsAt.mono {w : World} {L L' cap : Nat} {A : Option Addr} {l : List Int} (h : NumsAt w L A cap l) (hL : L ≤ L') : NumsAt w L' A cap l :=
 ⟨h.1, h.2.1, h.2.2.1, fun hn => by obtain ⟨b, off, e, hb, hc⟩ := h.2.2.2 hn; exact ⟨b, off, e, by omega, hc⟩⟩
theorem NumsAt.below {w w' : World} {L B cap : Nat} {A : Option Addr} {l : List Int} (h : NumsAt w L A cap l) (hb : Below B w w') (hL : L ≤ B) : NumsAt w' L A cap l :=
 h.keep fun k hk => hb.block k (by omega)
theorem NumsAt.alloc {w : World} {L cap : Nat} {A : Option Addr} {l : List Int} (h : NumsAt w L A cap l) (hL : L ≤ w.heap.size) (o : Obj) : NumsAt (w.alloc o) L A cap l :=
 h.keep fun k hk => Below.heap_alloc w o k (by omega)
theorem NumsAt.nil (w : World) (L : Nat) : NumsAt w L none 0 [] := ⟨Nat.zero_le _, by simp [maxLen], fun _ => rfl, fun hn => absurd hn (by simp)⟩
theorem NumsAt.cut {w : World} {L cap : Nat} {A : Option Addr} {l : List Int} (h : NumsAt w L A cap l) (n : Nat) : NumsAt w L A cap (l.take n) :=
 ⟨by have := h.1; simp; omega, h.2.1, h.2.2.1, fun hn => by
  have hn2 : 0 < l.length := by simp at hn; omega
  obtain ⟨b, off, e, hb, hc⟩ := h.2.2.2 hn2
  refine ⟨b, off, e, hb, fun i p hi => hc i p ?_⟩
  rw [List.getElem?_take] at hi
  split at hi
  ·exact hi
  ·cases hi⟩
theorem int_at {w : World} {L cap : Nat} {A : Option Addr} {l : List Int} (h : NumsAt w L A cap l) (i : Nat) (hi : i < l.length) : ∃ b off, A = some ⟨b, off, none⟩ ∧ b < L ∧ w.cell? ⟨b, off + i, none⟩ = some (.int .i64 l[i]) := by
 obtain ⟨b, off, e, hb, hc⟩ := h.2.2.2 (by omega)
 exact ⟨b, off, e, hb, hc i l[i] (List.getElem?_eq_getElem hi)⟩
theorem ivs_len (l : List Int) : (l.map iv).length = l.length := by simp
/-- What owns numbers holds them. -/
theorem own_ints {w : World} {B : Nat} {e : TypeId} {v : Value} {n : Nat} {l : List Int} (h : w.ownsRow B e 1 v n (l.map iv)) : ∃ A cap, v = .slice A l.length cap ∧ NumsAt w w.heap.size A cap l ∧ n = l.length ∧ (A = none ∨ ∃ g, A = some ⟨g, 0, none⟩ ∧ B ≤ g ∧ g < w.heap.size) := by
 have hl := h.1
 rw [ivs_len] at hl
 have hn : n = l.length := by omega
 subst hn
 have hlt := h.lt
 rcases h.2 with ⟨rfl, h0⟩ | ⟨g, cap, cur, rfl, hb, hh, hnc, hcm, hsz, htk⟩
 ·have : l = [] := List.length_eq_zero_iff.1 h0
  subst this
  exact ⟨none, 0, rfl, NumsAt.nil _ _, rfl, .inl rfl⟩
 ·have hg := hlt g rfl
  refine ⟨some ⟨g, 0, none⟩, cap, rfl, ⟨hnc, hcm, by simp, fun hn => ⟨g, 0, rfl, hg.2, fun i p hi => ?_⟩⟩, rfl, .inr ⟨g, rfl, hb, hg.2⟩⟩
  have hi2 := get_lt hi
  have c0 := h.cellAt i (by omega)
  rw [Nat.zero_add]
  refine c0.trans ?_
  rw [List.getElem?_map, hi]; rfl
theorem own_ints_nil (w : World) (B : Nat) (e : TypeId) : w.ownsRow B e 1 (.slice none 0 0) 0 (([] : List Int).map iv) := World.ownsRow_nil w B e 1
theorem own_ints_at {w : World} {B : Nat} {e : TypeId} {A : Option Addr} {n cap : Nat} {l : List Int} (h : w.ownsRow B e 1 (.slice A n cap) n (l.map iv)) : NumsAt w w.heap.size A cap l := by
 obtain ⟨A', c', e1, h1, h2, _⟩ := own_ints h
 simp at e1
 obtain ⟨rfl, _, rfl⟩ := e1
 exact h1
theorem own_ilen {w : World} {B : Nat} {e : TypeId} {v : Value} {n : Nat} {l : List Int} (h : w.ownsRow B e 1 v n (l.map iv)) : l.length = n := by have := h.1; simpa using this

/-- 'out = append(out, x)' of one number, out the call's own: ONE goal is left. -/
theorem app_int {P : Program} {w : World} {ops : Array Oper} {rest : List Oper} {o : Oper} {a : Act} {Q : Exit → Act → World → Prop} (hgd : o.guard = none) (s x : Operand) (t : TypeId)
  (ho : o.op = .call { callee := .builtin .append, args := #[s, x], argTypes := #[t, t] }) (B : Nat) (e : TypeId) (ht : P.underlying t = some (.slice e))
  (hinfo : (P.info? e).map (fun i => (i.zero, i.size, i.bytes)) = some (some (.int .i64 0), 1, 8)) (v : Value) (n : Nat) (l : List Int) (hs : a.eval s = v) (hown : w.ownsRow B e 1 v n (l.map iv)) (c X : Int) (hX : X = c) (cp : Nat)
  (hx : a.eval x = .slice (some ⟨w.heap.size, 0, none⟩) 1 cp) (hn : n ≤ 1000000000000) (hB : B ≤ w.heap.size)
  (h : ∀ v' w', w'.ownsRow B e 1 v' (n + 1) ((l ++ [c]).map iv) → Below B w w' → w.grownBy w' v.ownBlock → wpList P ops Q rest (a.put o.dst v') w') : wpList P ops Q (o :: rest) a (w.alloc (.cells #[.int .i64 X] e)) := by
 obtain ⟨i0, hi, hz0, hz1, hz2⟩ := info_parts hinfo
 subst hX
 refine wpList_append_own _ hgd s x t ho B e i0 (.int .i64 0) 1 8 ht hi hz0 hz1 hz2 rfl (by decide) v n (l.map iv) hs (hown.alloc _) ⟨w.heap.size, 0, none⟩ 1 cp [.int .i64 X] hx rfl (one_new w _ e) ?_ ?_ (by omega) ?_ ?_
 ·intro u hu; simp at hu; subst hu; rfl
 ·unfold maxLen; omega
 ·have := World.size_alloc w (.cells #[.int .i64 X] e); omega
 ·intro v' w' hown' hg _
  have hg2 : w.grownBy w' v.ownBlock := grown_trans (World.grownBy_alloc w _ _) hg
  refine h v' w' ?_ (below_of_grown hg2 hB (fun g hg => (hown.lt g hg).1)) hg2
  simpa [iv] using hown'
theorem Tryz.info_int : (Tryz.prog.info? 3).map (fun i => (i.zero, i.size, i.bytes)) = some (some (.int .i64 0), 1, 8) := by kernel_rfl

end

section
open Go.ChangeShapes Go.WideShapes Go.ChangeAt Go.RowKit Go.Joins
set_option linter.unusedVariables false

theorem append_fresh {P : Program} (w : World) (base : Nat) (t ty e : TypeId) (i : TypeInfo) (z : Value) (size bytes : Nat) (ht : P.underlying t = some (.slice e)) (hi : P.info? e = some i) (hz : i.zero = some z)
  (hsize : i.size = size) (hby : i.bytes = bytes)
  (v : Value) (n : Nat) (xs : List Value) (hown : w.ownsRow base e size v n xs)
  (a : Addr) (m c : Nat) (news : List Value) (hl : news.length = m * size) (hnews : ∀ j u, news[j]? = some u → w.cell? (a.add j) = some u) (h1 : ∀ u ∈ news, u.oneCell' = true)
  (h63 : n + m ≤ maxLen) (hbytes : (n + m) * bytes ≤ 140737488355328) (hm : 0 < m) (v' : Value) (w' : World) (hr : (Builtin.append_ #[t, t] ty #[v, .slice (some a) m c]).run P w = .ok v' w') : v'.ownBlock = v.ownBlock ∨ v'.ownBlock = some w.heap.size := by
 subst hsize
 subst hby
 have hsmall : n + m ≤ 9223372036854775807 := by simp only [maxLen] at h63; omega
 rcases hown.2 with ⟨rfl, rfl⟩ | ⟨g, cap, cur, rfl, hbg, hg, hnc, hcm, hcs, htake⟩
 ·have h2 := run_append_nil (P := P) w t ty e i z ht hi hz a m c news hl hnews (by omega) (by omega) (by have hb := hbytes; simp only [Nat.zero_add] at hb; omega)
  rw [h2] at hr
  simp only [Result.ok.injEq] at hr
  rw [← hr.1]
  exact Or.inr (by simp [Value.ownBlock])
 ·by_cases hroom : n + m ≤ cap
  ·have hfit : n * i.size + news.length ≤ cur.size := by rw [hl, hcs, ← Nat.add_mul]; exact Nat.mul_le_mul_right _ hroom
   have h2 := run_append_room (P := P) w t ty e i ht hi g n cap cur hg a m c news hl hnews h1 hroom hfit
   rw [h2] at hr
   simp only [Result.ok.injEq] at hr
   rw [← hr.1]
   exact Or.inl (by simp [Value.ownBlock])
  ·have holds : ∀ j u, xs[j]? = some u → w.cell? ((⟨g, 0, none⟩ : Addr).add j) = some u := hown.cells (g := g) rfl
   have h2 := run_append_grow (P := P) w t ty e i z ht hi hz ⟨g, 0, none⟩ n cap xs hown.1 holds a m c news hl hnews (by omega) (by omega) (growslice_fits (by omega) hbytes)
   rw [h2] at hr
   simp only [Result.ok.injEq] at hr
   rw [← hr.1]
   exact Or.inr (by simp [Value.ownBlock])

/-- 'out = append(out, x)' of one number: and where the row lies behind it. -/
theorem app_int2 {P : Program} {w : World} {ops : Array Oper} {rest : List Oper} {o : Oper} {a : Act} {Q : Exit → Act → World → Prop} (hgd : o.guard = none) (s x : Operand) (t : TypeId)
  (ho : o.op = .call { callee := .builtin .append, args := #[s, x], argTypes := #[t, t] }) (B : Nat) (e : TypeId) (ht : P.underlying t = some (.slice e))
  (hinfo : (P.info? e).map (fun i => (i.zero, i.size, i.bytes)) = some (some (.int .i64 0), 1, 8)) (v : Value) (n : Nat) (l : List Int) (hs : a.eval s = v) (hown : w.ownsRow B e 1 v n (l.map iv)) (c X : Int) (hX : X = c) (cp : Nat)
  (hx : a.eval x = .slice (some ⟨w.heap.size, 0, none⟩) 1 cp) (hn : n ≤ 1000000000000) (hB : B ≤ w.heap.size)
  (h : ∀ v' w', w'.ownsRow B e 1 v' (n + 1) ((l ++ [c]).map iv) → Below B w w' → w.grownBy w' v.ownBlock → (v'.ownBlock = v.ownBlock ∨ v'.ownBlock = some (w.heap.size + 1)) → wpList P ops Q rest (a.put o.dst v') w') : wpList P ops Q (o :: rest) a (w.alloc (.cells #[.int .i64 X] e)) := by
 obtain ⟨i0, hi, hz0, hz1, hz2⟩ := info_parts hinfo
 subst hX
 have h1 : ∀ u ∈ [Value.int .i64 X], u.oneCell' = true := by intro u hu; simp at hu; subst hu; rfl
 have h63 : n + 1 ≤ maxLen := by unfold maxLen; omega
 have hsz := World.size_alloc w (.cells #[.int .i64 X] e)
 obtain ⟨v', w', hr, hown', hg, _⟩ := run_append_own (P := P) (w.alloc (.cells #[.int .i64 X] e)) B t o.type e i0 (.int .i64 0) 1 8 ht hi hz0 hz1 hz2 rfl (by decide) v n (l.map iv) (hown.alloc _) ⟨w.heap.size, 0, none⟩ 1 cp [.int .i64 X] rfl (one_new w _ e) h1 h63 (by omega) (by omega)
 have hf := append_fresh (P := P) (w.alloc (.cells #[.int .i64 X] e)) B t o.type e i0 (.int .i64 0) 1 8 ht hi hz0 hz1 hz2 v n (l.map iv) (hown.alloc _) ⟨w.heap.size, 0, none⟩ 1 cp [.int .i64 X] rfl (one_new w _ e) h1 h63 (by omega) (by decide) v' w' hr
 rw [hsz] at hf
 have hg2 : w.grownBy w' v.ownBlock := grown_trans (World.grownBy_alloc w _ _) hg
 refine wpList_plain hgd fun _ hK => ?_
 unfold Oper.wp execOp
 simp only [ho, resolve, invoke, builtin, Sem.run_bind, Sem.run_pure, Result.andThen_ok, List.map_toArray, List.map_cons, List.map_nil, hs, hx, hr]
 exact hK _ _ (h v' w' (by simpa [iv] using hown') (below_of_grown hg2 hB (fun g hg => (hown.lt g hg).1)) hg2 hf)
end

section
open Go.ChangeShapes Go.WideShapes Go.ChangeAt Go.RowKit Go.Joins
set_option linter.unusedVariables false

/-- block g of world w is the trail T; its rows lie behind B -/
structure TrW (w : World) (B g : Nat) (T : Tr) (A : Option Addr) (cap : Nat) (vc vw vd : Value) : Prop where
 blk : Blk w g 152 #[.int .i64 T.k.o, .int .i64 T.k.l, .int .i64 T.k.m, .slice A T.k.ps.length cap, .int .i64 T.k.base, .int .i64 T.k.last, .int .i64 T.n, .int .i64 T.sz, vc, vw, vd]
 ps : w.ownsRow B 175 2 (.slice A T.k.ps.length cap) T.k.ps.length (prs T.k.ps)
 cs : w.ownsRow B 3 1 vc T.cs.length (T.cs.map iv)
 ws : w.ownsRow B 3 1 vw T.ws.length (T.ws.map iv)
 ds : w.ownsRow B 5 1 vd T.ds.length (T.ds.map vb)
 sep : vc.ownBlock = none ∨ vc.ownBlock ≠ vw.ownBlock
 le : B ≤ g
def TrailAt (w : World) (B g : Nat) (T : Tr) : Prop := ∃ A cap vc vw vd, TrW w B g T A cap vc vw vd

section
variable {w w' : World} {B g : Nat} {T : Tr} {A : Option Addr} {cap : Nat} {vc vw vd : Value}

theorem TrW.lt (h : TrW w B g T A cap vc vw vd) : g < w.heap.size := h.blk.lt
theorem TrW.on (h : TrW w B g T A cap vc vw vd) (hb : Below w.heap.size w w') : TrW w' B g T A cap vc vw vd :=
 ⟨h.blk.on hb, own_on h.ps hb, own_on h.cs hb, own_on h.ws hb, own_on h.ds hb, h.sep, h.le⟩
theorem TrW.kat (h : TrW w B g T A cap vc vw vd) : KAt w g T.k (.slice A T.k.ps.length cap) :=
 ⟨h.lt, h.blk.cell 0, h.blk.cell 1, h.blk.cell 2, h.blk.cell 3, h.blk.cell 4, h.blk.cell 5⟩
theorem own_ps_at {w : World} {B : Nat} {e : TypeId} {A : Option Addr} {n cap : Nat} {l : List Pr} (h : w.ownsRow B e 2 (.slice A n cap) n (prs l)) : PsAt w w.heap.size A cap l := by
 obtain ⟨A', c', e1, h1, h2, _⟩ := own_ps h
 simp at e1
 obtain ⟨rfl, _, rfl⟩ := e1
 exact h1
theorem TrW.psAt (h : TrW w B g T A cap vc vw vd) : PsAt w w.heap.size A cap T.k.ps := own_ps_at h.ps
end

theorem own_elem {w : World} {B : Nat} {e : TypeId} {size n : Nat} {v : Value} {xs : List Value} (h : w.ownsRow B e size v n xs) (b : Nat) (hb : v.ownBlock = some b) : ∃ cs, w.heap[b]? = some (.cells cs e (0, 0)) := by
 rcases h.2 with ⟨rfl, _⟩ | ⟨g, cap', cur, rfl, _, hh, _⟩
 ·simp [Value.ownBlock] at hb
 ·have e3 : g = b := by simpa [Value.ownBlock] using hb
  subst e3
  exact ⟨cur, hh⟩
/-- rows of different elements are apart -/
theorem own_apart {w : World} {B B2 : Nat} {e e2 : TypeId} {size size2 n n2 : Nat} {v v2 : Value} {xs xs2 : List Value} (h : w.ownsRow B e size v n xs) (h2 : w.ownsRow B2 e2 size2 v2 n2 xs2) (ht : e ≠ e2) : v.ownBlock = none ∨ v.ownBlock ≠ v2.ownBlock := by
 cases hv : v.ownBlock with
 | none => exact .inl rfl
 | some b =>
  refine .inr (fun e3 => ht ?_)
  obtain ⟨c1, h3⟩ := own_elem h b hv
  obtain ⟨c2, h4⟩ := own_elem h2 b e3.symm
  have h5 := h3.symm.trans h4
  simp at h5
  exact h5.2
theorem own_apart_blk {w : World} {B : Nat} {e t : TypeId} {size n b : Nat} {v : Value} {xs : List Value} {cs : Array Value} (h : w.ownsRow B e size v n xs) (hk : Blk w b t cs) (ht : t ≠ e) : v.ownBlock = none ∨ v.ownBlock ≠ some b := by
 cases hv : v.ownBlock with
 | none => exact .inl rfl
 | some g =>
  refine .inr (fun e3 => ht ?_)
  simp at e3
  subst e3
  obtain ⟨c1, h3⟩ := own_elem h _ hv
  have h5 := hk.symm.trans h3
  simp at h5
  exact h5.2
theorem apart_ne {v : Value} {r : Option Nat} {b : Nat} (h : v.ownBlock = none ∨ v.ownBlock ≠ r) (hb : r = some b) : some b ≠ v.ownBlock := by
 subst hb
 rcases h with h | h
 ·rw [h]; simp
 ·exact fun e => h e.symm

theorem tyne_tp : 152 ≠ 175 := by decide
theorem tyne_ti : 152 ≠ 3 := by decide
theorem tyne_tu : 152 ≠ 5 := by decide
theorem tyne_pi : 175 ≠ 3 := by decide
theorem tyne_pu : 175 ≠ 5 := by decide
theorem tyne_iu : 3 ≠ 5 := by decide
/-- a store into the trail's own cells leaves the rows alone -/
theorem own_store_blk {w : World} {B : Nat} {e t : TypeId} {size n b : Nat} {v : Value} {xs : List Value} {cs : Array Value} (h : w.ownsRow B e size v n xs) (hk : Blk w b t cs) (ht : t ≠ e) (i : Nat) (u : Value) : (w.setCell ⟨b, i, none⟩ u).ownsRow B e size v n xs :=
 h.kept (grown_set (grown_refl w (some b)) i u) (own_apart_blk h hk ht)
end

section
open Go.ChangeShapes Go.WideShapes Go.ChangeAt Go.RowKit Go.Joins
set_option linter.unusedVariables false

/-- 'out = append(out, x)' of one number, as a step of a region; and where the row lies behind it -/
theorem step_int {P : Program} {w : World} {ops : Array Oper} {o : Oper} {a : Act} {K : Act → World → Prop} {Q : Exit → Act → World → Prop} {E : Prop} (hgd : o.guard = none) (s x : Operand) (t : TypeId)
  (ho : o.op = .call { callee := .builtin .append, args := #[s, x], argTypes := #[t, t] }) (B : Nat) (e : TypeId) (ht : P.underlying t = some (.slice e))
  (hinfo : (P.info? e).map (fun i => (i.zero, i.size, i.bytes)) = some (some (.int .i64 0), 1, 8)) (v : Value) (n : Nat) (l : List Int) (hs : a.eval s = v) (hown : w.ownsRow B e 1 v n (l.map iv)) (X : Int) (cp : Nat)
  (hx : a.eval x = .slice (some ⟨w.heap.size, 0, none⟩) 1 cp) (hn : n ≤ 1000000000000) (hB : B ≤ w.heap.size)
  (h : ∀ v' w', w'.ownsRow B e 1 v' (n + 1) ((l ++ [X]).map iv) → Below B w w' → w.grownBy w' v.ownBlock → (v'.ownBlock = v.ownBlock ∨ v'.ownBlock = some (w.heap.size + 1)) → K (a.put o.dst v') w') : if Region.wanted o (yielded ops a.tmps) = true then Oper.wp P o a (w.alloc (.cells #[.int .i64 X] e)) K Q else E := by
 have hw : Region.wanted o (yielded ops a.tmps) = true := by simp [Region.wanted, hgd]
 rw [if_pos hw]
 obtain ⟨i0, hi, hz0, hz1, hz2⟩ := info_parts hinfo
 have h1 : ∀ u ∈ [Value.int .i64 X], u.oneCell' = true := by intro u hu; simp at hu; subst hu; rfl
 have h63 : n + 1 ≤ maxLen := by unfold maxLen; omega
 have hsz := World.size_alloc w (.cells #[.int .i64 X] e)
 obtain ⟨v', w', hr, hown', hg, _⟩ := run_append_own (P := P) (w.alloc (.cells #[.int .i64 X] e)) B t o.type e i0 (.int .i64 0) 1 8 ht hi hz0 hz1 hz2 rfl (by decide) v n (l.map iv) (hown.alloc _) ⟨w.heap.size, 0, none⟩ 1 cp [.int .i64 X] rfl (one_new w _ e) h1 h63 (by omega) (by omega)
 have hf := append_fresh (P := P) (w.alloc (.cells #[.int .i64 X] e)) B t o.type e i0 (.int .i64 0) 1 8 ht hi hz0 hz1 hz2 v n (l.map iv) (hown.alloc _) ⟨w.heap.size, 0, none⟩ 1 cp [.int .i64 X] rfl (one_new w _ e) h1 h63 (by omega) (by decide) v' w' hr
 rw [hsz] at hf
 have hg2 : w.grownBy w' v.ownBlock := grown_trans (World.grownBy_alloc w _ _) hg
 unfold Oper.wp execOp
 simp only [ho, resolve, invoke, builtin, Sem.run_bind, Sem.run_pure, Result.andThen_ok, List.map_toArray, List.map_cons, List.map_nil, hs, hx, hr]
 exact h v' w' (by simpa [iv] using hown') (below_of_grown hg2 hB (fun g hg => (hown.lt g hg).1)) hg2 hf

theorem c_step_wrong (g B : Nat) (T : Tr) (A : Option Addr) (cap : Nat) (vc vw vd : Value) (w : World) (hT : T.k.Ok) (h : TrW w B g T A cap vc vw vd) (code : Int) (hc : ¬ (0 ≤ code ∧ code ≤ T.k.great)) :
  Calls Tryz.prog 165 #[.pointer (some ⟨g, 0, none⟩), .int .i64 code] w fun e w' => e = .returned (.int .i64 2) ∧ TrW w' B g T A cap vc vw vd ∧ Below w.heap.size w w' := by
 have HF := hid (fun (v : World) (hv : KAt v g T.k (.slice A T.k.ps.length cap)) => c_canFollow g T.k A cap v hT hv code)
 simp only [decide_eq_false hc] at HF
 have HT := hid h
 clear h hc hT
 go_enter Tryz.func165, Tryz.ntmps165
 go_wp2_with fail
 refine (HF.out _ HT.out.kat).mono ?_
 rintro e w1 ⟨rfl, hb1⟩
 go_wp2
 go_ret
 exact ⟨rfl, HT.out.on hb1, hb1⟩

theorem c_step_long (g B : Nat) (T : Tr) (A : Option Addr) (cap : Nat) (vc vw vd : Value) (w : World) (hT : T.k.Ok) (h : TrW w B g T A cap vc vw vd) (code : Int) (hc : T.k.Fol code) (hs : T.sz ≤ 2000) (hl : 2000 < T.sz + (T.k.any code).length) :
  Calls Tryz.prog 165 #[.pointer (some ⟨g, 0, none⟩), .int .i64 code] w fun e w' => e = .returned (.int .i64 3) ∧ TrW w' B g T A cap vc vw vd ∧ Below w.heap.size w w' := by
 have hfi := (hT.fol_iff code).1 hc
 have hal := hT.any_len hc
 have HF := hid (fun (v : World) (hv : KAt v g T.k (.slice A T.k.ps.length cap)) => c_canFollow g T.k A cap v hT hv code)
 simp only [decide_eq_true (And.intro hfi.1 hfi.2.1)] at HF
 have HS := hid (fun (v : World) (hv : KAt v g T.k (.slice A T.k.ps.length cap)) => c_standsForWord g T.k A cap v hT hv code)
 simp only [decide_eq_true hc] at HS
 have HW := hid (fun (v : World) (hv : KAt v g T.k (.slice A T.k.ps.length cap)) (hp : PsAt v v.heap.size A cap T.k.ps) => c_word g T.k A cap v.heap.size v hT hv hp (Nat.le_refl _) code hc)
 obtain ⟨W, hW⟩ : ∃ W, W = str (T.k.any code) := ⟨_, rfl⟩
 have hWs : W.size = (T.k.any code).length := by rw [hW, str_size]
 have hW1 : W.size ≤ 1022 := by omega
 have hW2 : (2000 : Int) < (T.sz : Int) + (W.size : Int) := by omega
 simp only [← hW] at HW
 have HT := hid h
 clear h hc hT hfi hal hl hW hWs
 go_enter Tryz.func165, Tryz.ntmps165
 go_wp2_with fail
 refine (HF.out _ HT.out.kat).mono ?_
 rintro e w1 ⟨rfl, hb1⟩
 go_wp2_with fail
 refine (HS.out _ (HT.out.on hb1).kat).mono ?_
 rintro e w2 ⟨rfl, hb2⟩
 go_wp2_with fail
 refine (HW.out _ ((HT.out.on hb1).on hb2).kat ((HT.out.on hb1).on hb2).psAt).mono ?_
 rintro e w3 ⟨rfl, hb3⟩
 have HT3 := hid (((HT.out.on hb1).on hb2).on hb3)
 have q7 := HT3.out.blk.cell 7
 simp only [List.getElem?_toArray, List.getElem?_cons_succ, List.getElem?_cons_zero] at q7
 go_wp2
 go_ret
 exact ⟨rfl, HT3.out, by exact obB⟩
end

section
open Go.ChangeShapes Go.WideShapes Go.ChangeAt Go.RowKit Go.Joins
set_option linter.unusedVariables false

theorem tcells {w : World} {g : Nat} {t : TypeId} {a0 a1 a2 a3 a4 a5 a6 a7 a8 a9 a10 : Value} (h : Blk w g t #[a0, a1, a2, a3, a4, a5, a6, a7, a8, a9, a10]) : w.cell? ⟨g, 0, none⟩ = some a0 ∧ w.cell? ⟨g, 1, none⟩ = some a1 ∧ w.cell? ⟨g, 2, none⟩ = some a2 ∧ w.cell? ⟨g, 3, none⟩ = some a3 ∧ w.cell? ⟨g, 4, none⟩ = some a4 ∧ w.cell? ⟨g, 5, none⟩ = some a5 ∧ w.cell? ⟨g, 6, none⟩ = some a6 ∧ w.cell? ⟨g, 7, none⟩ = some a7 ∧ w.cell? ⟨g, 8, none⟩ = some a8 ∧ w.cell? ⟨g, 9, none⟩ = some a9 ∧ w.cell? ⟨g, 10, none⟩ = some a10 := ⟨h.cell 0, h.cell 1, h.cell 2, h.cell 3, h.cell 4, h.cell 5, h.cell 6, h.cell 7, h.cell 8, h.cell 9, h.cell 10⟩
section
variable {w w' : World} {B g : Nat} {T : Tr} {A : Option Addr} {cap : Nat} {vc vw vd v : Value}

theorem TrW.drew (h : TrW w B g T A cap vc vw vd) : TrW w.drew B g T A cap vc vw vd := h.on (bel_drew (Below.refl _ w))
theorem TrW.set6 (h : TrW w B g T A cap vc vw vd) (n : Nat) (X : Int) (hX : X = (n : Int)) : TrW (w.setCell ⟨g, 6, none⟩ (.int .i64 X)) B g { T with n := n } A cap vc vw vd := by
 subst hX
 exact ⟨h.blk.set_ 6 _, own_store_blk h.ps h.blk tyne_tp _ _, own_store_blk h.cs h.blk tyne_ti _ _, own_store_blk h.ws h.blk tyne_ti _ _, own_store_blk h.ds h.blk tyne_tu _ _, h.sep, h.le⟩
theorem TrW.set7 (h : TrW w B g T A cap vc vw vd) (n : Nat) (X : Int) (hX : X = (n : Int)) : TrW (w.setCell ⟨g, 7, none⟩ (.int .i64 X)) B g { T with sz := n } A cap vc vw vd := by
 subst hX
 exact ⟨h.blk.set_ 7 _, own_store_blk h.ps h.blk tyne_tp _ _, own_store_blk h.cs h.blk tyne_ti _ _, own_store_blk h.ws h.blk tyne_ti _ _, own_store_blk h.ds h.blk tyne_tu _ _, h.sep, h.le⟩
theorem fresh_sep {w : World} {B : Nat} {e : TypeId} {size n : Nat} {v v' v2 : Value} {xs : List Value} (h2 : w.ownsRow B e size v2 n xs) (hs : v.ownBlock = none ∨ v.ownBlock ≠ v2.ownBlock) (hf : v'.ownBlock = v.ownBlock ∨ v'.ownBlock = some (w.heap.size + 1)) : v'.ownBlock = none ∨ v'.ownBlock ≠ v2.ownBlock := by
 rcases hf with hf | hf
 ·rw [hf]; exact hs
 ·refine .inr (fun e => ?_)
  rw [hf] at e
  have := (h2.lt _ e.symm).2
  omega
theorem sep_symm {v v2 : Value} (h : v.ownBlock = none ∨ v.ownBlock ≠ v2.ownBlock) : v2.ownBlock = none ∨ v2.ownBlock ≠ v.ownBlock := by
 rcases h with h | h
 ·cases hv : v2.ownBlock with
  | none => exact .inl rfl
  | some b => exact .inr (by rw [h]; simp)
 ·exact .inr (fun e => h e.symm)
/-- codes: appended to and stored -/
theorem TrW.put8 (h : TrW w B g T A cap vc vw vd) (C : Int) (n : Nat) (hn : n = T.cs.length) (ho : w'.ownsRow B 3 1 v (n + 1) ((T.cs ++ [C]).map iv)) (hg : w.grownBy w' vc.ownBlock) (hf : v.ownBlock = vc.ownBlock ∨ v.ownBlock = some (w.heap.size + 1)) :
  TrW (w'.setCell ⟨g, 8, none⟩ v) B g { T with cs := T.cs ++ [C] } A cap v vw vd := by
 subst hn
 have hb := h.blk.grown hg (apart_ne (own_apart_blk h.cs h.blk tyne_ti) rfl)
 refine ⟨hb.set_ 8 _, own_store_blk (h.ps.kept hg (own_apart h.ps h.cs tyne_pi)) hb tyne_tp _ _, ?_, own_store_blk (h.ws.kept hg (sep_symm h.sep)) hb tyne_ti _ _, own_store_blk (h.ds.kept hg (sep_symm (own_apart h.cs h.ds tyne_iu))) hb tyne_tu _ _, fresh_sep h.ws h.sep hf, h.le⟩
 have := own_store_blk ho hb tyne_ti 8 v
 simpa using this
/-- widths -/
theorem TrW.put9 (h : TrW w B g T A cap vc vw vd) (C : Int) (n : Nat) (hn : n = T.ws.length) (ho : w'.ownsRow B 3 1 v (n + 1) ((T.ws ++ [C]).map iv)) (hg : w.grownBy w' vw.ownBlock) (hf : v.ownBlock = vw.ownBlock ∨ v.ownBlock = some (w.heap.size + 1)) :
  TrW (w'.setCell ⟨g, 9, none⟩ v) B g { T with ws := T.ws ++ [C] } A cap vc v vd := by
 subst hn
 have hb := h.blk.grown hg (apart_ne (own_apart_blk h.ws h.blk tyne_ti) rfl)
 refine ⟨hb.set_ 9 _, own_store_blk (h.ps.kept hg (own_apart h.ps h.ws tyne_pi)) hb tyne_tp _ _, own_store_blk (h.cs.kept hg h.sep) hb tyne_ti _ _, ?_, own_store_blk (h.ds.kept hg (sep_symm (own_apart h.ws h.ds tyne_iu))) hb tyne_tu _ _, sep_symm (fresh_sep h.cs (sep_symm h.sep) hf), h.le⟩
 have := own_store_blk ho hb tyne_ti 9 v
 simpa using this
/-- data -/
theorem TrW.put10 (h : TrW w B g T A cap vc vw vd) (l : List UInt8) (n : Nat) (hn : n = T.ds.length + l.length) (ho : w'.ownsRow B 5 1 v n ((T.ds ++ l).map vb)) (hg : w.grownBy w' vd.ownBlock) :
  TrW (w'.setCell ⟨g, 10, none⟩ v) B g { T with ds := T.ds ++ l } A cap vc vw v := by
 subst hn
 have hb := h.blk.grown hg (apart_ne (own_apart_blk h.ds h.blk tyne_tu) rfl)
 refine ⟨hb.set_ 10 _, own_store_blk (h.ps.kept hg (own_apart h.ps h.ds tyne_pu)) hb tyne_tp _ _, own_store_blk (h.cs.kept hg (own_apart h.cs h.ds tyne_iu)) hb tyne_ti _ _, own_store_blk (h.ws.kept hg (own_apart h.ws h.ds tyne_iu)) hb tyne_ti _ _, ?_, h.sep, h.le⟩
 have := own_store_blk ho hb tyne_tu 10 v
 simpa using this
/-- what lies below B is as it was -/
theorem TrW.bel6 (h : TrW w B g T A cap vc vw vd) (i : Nat) (u : Value) : Below B w (w.setCell ⟨g, i, none⟩ u) := (Below.refl B w).setCell h.le u
theorem TrW.le9 (h : TrW w B g T A cap vc vw vd) : B ≤ w.heap.size := by have := h.le; have := h.lt; omega
end
theorem own_sl {w : World} {B : Nat} {e : TypeId} {size n : Nat} {v : Value} {xs : List Value} (h : w.ownsRow B e size v n xs) : ∃ A cap, v = .slice A n cap := by
 rcases h.2 with ⟨rfl, rfl⟩ | ⟨g, cap, cur, rfl, _⟩
 ·exact ⟨none, 0, rfl⟩
 ·exact ⟨_, cap, rfl⟩
end

section
open Go.ChangeShapes Go.WideShapes Go.ChangeAt Go.RowKit Go.Joins
set_option linter.unusedVariables false

theorem own_near {w w' : World} {B b : Nat} {row : Option Nat} {e : TypeId} {size n : Nat} {v : Value} {xs : List Value} (h : w.ownsRow B e size v n xs) (hn : Near w w' b row) (h1 : v.ownBlock = none ∨ v.ownBlock ≠ some b) (h2 : v.ownBlock = none ∨ v.ownBlock ≠ row) : w'.ownsRow B e size v n xs := by
 refine ⟨h.1, ?_⟩
 have hlt := h.lt
 rcases h.2 with ⟨rfl, h0⟩ | ⟨g, cap, cur, rfl, hb, hh, hnc, hcm, hsz, htk⟩
 ·exact .inl ⟨rfl, h0⟩
 ·refine .inr ⟨g, cap, cur, rfl, hb, ?_, hnc, hcm, hsz, htk⟩
  have e : (Value.slice (some ⟨g, 0, none⟩) n cap).ownBlock = some g := by simp [Value.ownBlock]
  rw [e] at h1 h2
  refine (hn.block g (hlt g e).2 ?_ ?_).trans hh
  ·intro e2; subst e2; simp at h1
  ·rcases h2 with h2 | h2
   ·cases h2
   ·exact h2
theorem TrW.ne_row {w : World} {B g : Nat} {T : Tr} {A : Option Addr} {cap : Nat} {vc vw vd : Value} (h : TrW w B g T A cap vc vw vd) : ∀ g', A = some ⟨g', 0, none⟩ → g' ≠ g := by
 rintro g' rfl rfl
 rcases own_apart_blk h.ps h.blk tyne_tp with e | e
 ·simp [Value.ownBlock] at e
 ·exact e (by simp [Value.ownBlock])
theorem TrW.follow {w w' : World} {B g : Nat} {k k' : Kn} {n sz : Nat} {cs ws : List Int} {ds : List UInt8} {A A' : Option Addr} {cap cap' : Nat} {vc vw vd : Value} (h : TrW w B g ⟨k, n, sz, cs, ws, ds⟩ A cap vc vw vd)
  (hb : Blk w' g 152 ((#[.int .i64 k.o, .int .i64 k.l, .int .i64 k.m, .slice A k.ps.length cap, .int .i64 k.base, .int .i64 k.last, .int .i64 n, .int .i64 sz, vc, vw, vd].setIfInBounds 3 (.slice A' k'.ps.length cap')).setIfInBounds 5 (.int .i64 k'.last)))
  (ho : w'.ownsRow B 175 2 (.slice A' k'.ps.length cap') k'.ps.length (prs k'.ps)) (hn : Near w w' g (Value.slice A k.ps.length cap).ownBlock) (e0 : k'.o = k.o) (e1 : k'.l = k.l) (e2 : k'.m = k.m) (e3 : k'.base = k.base) : TrW w' B g ⟨k', n, sz, cs, ws, ds⟩ A' cap' vc vw vd := by
 refine ⟨?_, ho, own_near h.cs hn (own_apart_blk h.cs h.blk tyne_ti) (sep_symm (own_apart h.ps h.cs tyne_pi)), own_near h.ws hn (own_apart_blk h.ws h.blk tyne_ti) (sep_symm (own_apart h.ps h.ws tyne_pi)), own_near h.ds hn (own_apart_blk h.ds h.blk tyne_tu) (sep_symm (own_apart h.ps h.ds tyne_pu)), h.sep, h.le⟩
 show Blk w' g _ #[.int .i64 k'.o, .int .i64 k'.l, .int .i64 k'.m, .slice A' k'.ps.length cap', .int .i64 k'.base, .int .i64 k'.last, .int .i64 n, .int .i64 sz, vc, vw, vd]
 rw [e0, e1, e2, e3]
 simpa using hb
theorem TrW.near_below {w w' : World} {B g : Nat} {T : Tr} {A : Option Addr} {cap : Nat} {vc vw vd : Value} (h : TrW w B g T A cap vc vw vd) (hn : Near w w' g (Value.slice A T.k.ps.length cap).ownBlock) : Below B w w' := hn.below h.le (fun g' e => (h.ps.lt g' e).1) h.le9
end

section
open Go.ChangeShapes Go.WideShapes Go.ChangeAt Go.RowKit Go.Joins
set_option linter.unusedVariables false

set_option maxHeartbeats 4000000 in
set_option maxRecDepth 100000 in
theorem c_step_end (g B : Nat) (T : Tr) (A : Option Addr) (cap : Nat) (vc vw vd : Value) (w : World) (hT : T.Ok) (hn : T.n < 1000000) (hcl : T.cs.length < 3100) (h : TrW w B g T A cap vc vw vd) :
  Calls Tryz.prog 165 #[.pointer (some ⟨g, 0, none⟩), .int .i64 (T.k.c + 1)] w fun e w' => e = .returned (.int .i64 0) ∧ (∃ vc' vw', TrW w' B g (T.last (T.k.c + 1)) A cap vc' vw' vd) ∧ Below B w w' := by
 have hk := hT.kn
 have hgb := hk.great_bd
 have hcb := hk.cbd
 have HF := hid (fun (v : World) (hv : KAt v g T.k (.slice A T.k.ps.length cap)) => c_canFollow g T.k A cap v hk hv (T.k.c + 1))
 simp only [decide_eq_true (show 0 ≤ T.k.c + 1 ∧ T.k.c + 1 ≤ T.k.great by omega)] at HF
 have HS := hid (fun (v : World) (hv : KAt v g T.k (.slice A T.k.ps.length cap)) => c_standsForWord g T.k A cap v hk hv (T.k.c + 1))
 simp only [decide_eq_false (T.k.not_fol_end hk)] at HS
 have HWd := hid (fun (v : World) (hv : KAt v g T.k (.slice A T.k.ps.length cap)) => c_width g T.k A cap v hk hv)
 have HE := hid (fun (v : World) => c_EndCode_yes T.k.o T.k.l T.k.m v hk.set)
 obtain ⟨C, hC⟩ : ∃ C, C = T.k.c + 1 := ⟨_, rfl⟩
 have hC2 : pow2 T.k.l + 1 = C := hC.symm
 rw [← hC] at HF HS ⊢
 rw [hC2] at HE
 have hwn : T.ws.length ≤ 3100 := by have := hT.lens; omega
 have HT := hid h
 clear h hk hT hC hC2 hgb hcb
 have hg := HT.out.lt
 go_enter Tryz.func165, Tryz.ntmps165
 go_wp2_with fail
 refine (HF.out _ HT.out.kat).mono ?_
 rintro e w1 ⟨rfl, hb1⟩
 go_wp2_with fail
 refine (HS.out _ (HT.out.on hb1).kat).mono ?_
 rintro e w2 ⟨rfl, hb2⟩
 have HTc0 := hid ((HT.out.on hb1).on hb2)
 have hB0 : Below B w w2 := (hb1.mono HT.out.le9).trans (hb2.mono (HT.out.on hb1).le9)
 clear hb1 hb2
 obtain ⟨_, _, _, _, _, _, q6, _, q8, _, _⟩ := tcells HTc0.out.blk
 have f6 := HTc0.out.blk.frozen 6
 have HTc := hid (show TrW _ B g ⟨T.k, T.n + 1, T.sz, T.cs, T.ws, T.ds⟩ A cap vc vw vd from HTc0.out.set6 (T.n + 1) ((T.n : Int) + 1) (by omega))
 go_wp2_with (at_builtin; go_loud (refine app_int2 rfl (.tmp 59) (.tmp 61) 126 rfl B 3 Tryz.underlying126 Tryz.info_int _ T.cs.length T.cs rfl HTc.out.cs C _ rfl 1 (by first | with_reducible rfl | simp [Act.eval]) (by omega) (by have := HTc.out.le; have := HTc.out.lt; omega) ?_; intro v8 w8 hown8 hb8 hg8 hf8; obtain ⟨A8, c8, rfl⟩ := own_sl hown8; have k8 := HTc.out.blk.grown hg8 (apart_ne (own_apart_blk HTc.out.cs HTc.out.blk tyne_ti) rfl); have r8 := k8.cell 8; have f8 := k8.frozen 8))
 have HT8 := hid (show TrW _ B g ⟨T.k, T.n + 1, T.sz, T.cs ++ [C], T.ws, T.ds⟩ A cap _ vw vd from HTc.out.put8 C T.cs.length rfl hown8 hg8 hf8)
 have hB8 : Below B w (w8.setCell ⟨g, 8, none⟩ (.slice A8 (T.cs.length + 1) c8)) := ((hB0.trans (HTc0.out.bel6 6 _)).trans hb8).setCell HTc.out.le _
 obtain ⟨_, _, _, _, _, _, _, _, _, s9, _⟩ := tcells HT8.out.blk
 clear q6 q8 f6 k8 r8 f8 hown8 hb8 hg8 hf8
 go_region_law (first | (refine step_int (by rfl) (.tmp 69) (.tmp 74) 126 (by rfl) B 3 Tryz.underlying126 Tryz.info_int _ T.ws.length T.ws (by rfl) HT9.out.ws T.k.width 1 (by first | with_reducible rfl | simp [Act.eval]) (by omega) (by have := HT9.out.le; have := HT9.out.lt; omega) ?_; intro v10 w10 hown10 hb10 hg10 hf10; obtain ⟨A10, c10, rfl⟩ := own_sl hown10; have k10 := HT9.out.blk.grown hg10 (apart_ne (own_apart_blk HT9.out.ws HT9.out.blk tyne_ti) rfl); have r10 := k10.cell 9; have f10 := k10.frozen 9) | (go_simp; go_at_call 164; refine (HWd.out _ HT8.out.drew.kat).mono ?_; rintro e w9 ⟨rfl, hb9⟩; have HT9 := hid (HT8.out.drew.on hb9); have t9 := HT9.out.blk.cell 9; have u9 := (HT9.out.blk.alloc (.cells #[.int .i64 T.k.width] 3)).cell 9; have hB9 := hB8.trans ((bel_drew (Below.refl _ _)).mono HT8.out.le9); have hB9b := hB9.trans (hb9.mono HT8.out.le9)))
 all_goals
  have HTd := hid (show TrW _ B g ⟨T.k, T.n + 1, T.sz, T.cs ++ [C], T.ws ++ [T.k.width], T.ds⟩ A cap _ _ vd from HT9.out.put9 T.k.width T.ws.length rfl hown10 hg10 hf10)
  have hBd : Below B w (w10.setCell ⟨g, 9, none⟩ (.slice A10 (T.ws.length + 1) c10)) := (hB9b.trans hb10).setCell HT9.out.le _
  clear k10 r10 f10 hown10 hb10 hg10 hf10 t9 u9 HT9 HT8 HTc s9
  obtain ⟨p0, p1, p2, p3, p4, p5, _, _, _, _, _⟩ := tcells HTd.out.blk
  obtain ⟨W, hW⟩ : ∃ W, W = w10.setCell ⟨g, 9, none⟩ (.slice A10 (T.ws.length + 1) c10) := ⟨_, rfl⟩
  rw [← hW] at HTd hBd p0 p1 p2 p3 p4 p5 ⊢
  clear hW
  go_wp2_with fail
  refine (HE.out _).mono ?_
  rintro e w12 ⟨rfl, hb12⟩
  go_wp2
  go_ret
  exact ⟨rfl, ⟨_, _, HTd.out.on hb12⟩, hBd.trans (hb12.mono HTd.out.le9)⟩
end

section
open Go.ChangeShapes Go.WideShapes Go.ChangeAt Go.RowKit Go.Joins
set_option linter.unusedVariables false

set_option maxHeartbeats 4000000 in
set_option maxRecDepth 100000 in
theorem c_step_clear (g B : Nat) (T : Tr) (A : Option Addr) (cap : Nat) (vc vw vd : Value) (w : World) (hT : T.Ok) (hn : T.n < 1000000) (hcl : T.cs.length < 3100) (h : TrW w B g T A cap vc vw vd) :
  Calls Tryz.prog 165 #[.pointer (some ⟨g, 0, none⟩), .int .i64 (pow2 T.k.l)] w fun e w' => e = .returned (.int .i64 1) ∧ TrailAt w' B g (T.next T.k.c) ∧ Below B w w' := by
 have hk := hT.kn
 have hgb := hk.great_bd
 have hcb := hk.cbd
 have HF := hid (fun (v : World) (hv : KAt v g T.k (.slice A T.k.ps.length cap)) => c_canFollow g T.k A cap v hk hv (pow2 T.k.l))
 simp only [decide_eq_true (show 0 ≤ pow2 T.k.l ∧ pow2 T.k.l ≤ T.k.great by unfold Kn.c at hgb hcb; omega)] at HF
 have HS := hid (fun (v : World) (hv : KAt v g T.k (.slice A T.k.ps.length cap)) => c_standsForWord g T.k A cap v hk hv (pow2 T.k.l))
 simp only [decide_eq_false (show ¬ T.k.Fol (pow2 T.k.l) from T.k.not_fol_clear hk)] at HS
 have HWd := hid (fun (v : World) (hv : KAt v g T.k (.slice A T.k.ps.length cap)) => c_width g T.k A cap v hk hv)
 have HE := hid (fun (v : World) => c_EndCode_yes T.k.o T.k.l T.k.m v hk.set)
 have HFo := hid (fun (v : World) (cs : Array Value) (q1 : Blk v g 152 cs) (q2 : KAt v g T.k (.slice A T.k.ps.length cap)) (q3 : PsAt v v.heap.size A cap T.k.ps) (q4 : v.ownsRow B 175 2 (.slice A T.k.ps.length cap) T.k.ps.length (prs T.k.ps)) (q5 : B ≤ v.heap.size) (q6 : ∀ g', A = some ⟨g', 0, none⟩ → g' ≠ g) => c_follow_clear g B 152 cs T.k A cap v hk q1 q2 q3 q4 q6)
 have HX := hid (show (⟨T.k.cleared, T.n + 1, T.sz, T.cs ++ [pow2 T.k.l], T.ws ++ [T.k.width], T.ds⟩ : Tr) = T.next T.k.c by simp [Tr.next, Kn.step, Kn.part]; rfl)
 obtain ⟨C, hC⟩ : ∃ C, C = pow2 T.k.l := ⟨_, rfl⟩
 have hC2 : pow2 T.k.l + 1 = C + 1 := by rw [hC]
 rw [← hC] at HF HS HFo HX ⊢
 rw [hC2] at HE
 have hCb : 0 ≤ C ∧ C ≤ 256 := by unfold Kn.c at hcb; omega
 have hwn : T.ws.length ≤ 3100 := by have := hT.lens; omega
 have HT := hid h
 clear h hk hT hC hC2 hgb hcb
 have hg := HT.out.lt
 have hCne : (C == C + 1) = false := eq_no (by omega)
 go_enter Tryz.func165, Tryz.ntmps165
 go_wp2_with fail
 refine (HF.out _ HT.out.kat).mono ?_
 rintro e w1 ⟨rfl, hb1⟩
 go_wp2_with fail
 refine (HS.out _ (HT.out.on hb1).kat).mono ?_
 rintro e w2 ⟨rfl, hb2⟩
 have HTc0 := hid ((HT.out.on hb1).on hb2)
 have hB0 : Below B w w2 := (hb1.mono HT.out.le9).trans (hb2.mono (HT.out.on hb1).le9)
 clear hb1 hb2
 obtain ⟨_, _, _, _, _, _, q6, _, q8, _, _⟩ := tcells HTc0.out.blk
 have f6 := HTc0.out.blk.frozen 6
 have HTc := hid (show TrW _ B g ⟨T.k, T.n + 1, T.sz, T.cs, T.ws, T.ds⟩ A cap vc vw vd from HTc0.out.set6 (T.n + 1) ((T.n : Int) + 1) (by omega))
 go_wp2_with (at_builtin; go_loud (refine app_int2 rfl (.tmp 59) (.tmp 61) 126 rfl B 3 Tryz.underlying126 Tryz.info_int _ T.cs.length T.cs rfl HTc.out.cs C _ rfl 1 (by first | with_reducible rfl | simp [Act.eval]) (by omega) (by have := HTc.out.le; have := HTc.out.lt; omega) ?_; intro v8 w8 hown8 hb8 hg8 hf8; obtain ⟨A8, c8, rfl⟩ := own_sl hown8; have k8 := HTc.out.blk.grown hg8 (apart_ne (own_apart_blk HTc.out.cs HTc.out.blk tyne_ti) rfl); have r8 := k8.cell 8; have f8 := k8.frozen 8))
 have HT8 := hid (show TrW _ B g ⟨T.k, T.n + 1, T.sz, T.cs ++ [C], T.ws, T.ds⟩ A cap _ vw vd from HTc.out.put8 C T.cs.length rfl hown8 hg8 hf8)
 have hB8 : Below B w (w8.setCell ⟨g, 8, none⟩ (.slice A8 (T.cs.length + 1) c8)) := ((hB0.trans (HTc0.out.bel6 6 _)).trans hb8).setCell HTc.out.le _
 obtain ⟨_, _, _, _, _, _, _, _, _, s9, _⟩ := tcells HT8.out.blk
 clear q6 q8 f6 k8 r8 f8 hown8 hb8 hg8 hf8
 go_region_law (first | (refine step_int (by rfl) (.tmp 69) (.tmp 74) 126 (by rfl) B 3 Tryz.underlying126 Tryz.info_int _ T.ws.length T.ws (by rfl) HT9.out.ws T.k.width 1 (by first | with_reducible rfl | simp [Act.eval]) (by omega) (by have := HT9.out.le; have := HT9.out.lt; omega) ?_; intro v10 w10 hown10 hb10 hg10 hf10; obtain ⟨A10, c10, rfl⟩ := own_sl hown10; have k10 := HT9.out.blk.grown hg10 (apart_ne (own_apart_blk HT9.out.ws HT9.out.blk tyne_ti) rfl); have r10 := k10.cell 9; have f10 := k10.frozen 9) | (go_simp; go_at_call 164; refine (HWd.out _ HT8.out.drew.kat).mono ?_; rintro e w9 ⟨rfl, hb9⟩; have HT9 := hid (HT8.out.drew.on hb9); have t9 := HT9.out.blk.cell 9; have u9 := (HT9.out.blk.alloc (.cells #[.int .i64 T.k.width] 3)).cell 9; have hB9 := hB8.trans ((bel_drew (Below.refl _ _)).mono HT8.out.le9); have hB9b := hB9.trans (hb9.mono HT8.out.le9)))
 all_goals
  have HTd := hid (show TrW _ B g ⟨T.k, T.n + 1, T.sz, T.cs ++ [C], T.ws ++ [T.k.width], T.ds⟩ A cap _ _ vd from HT9.out.put9 T.k.width T.ws.length rfl hown10 hg10 hf10)
  have hBd : Below B w (w10.setCell ⟨g, 9, none⟩ (.slice A10 (T.ws.length + 1) c10)) := (hB9b.trans hb10).setCell HT9.out.le _
  clear k10 r10 f10 hown10 hb10 hg10 hf10 t9 u9 HT9 HT8 HTc s9
  obtain ⟨p0, p1, p2, p3, p4, p5, _, _, _, _, _⟩ := tcells HTd.out.blk
  obtain ⟨W, hW⟩ : ∃ W, W = w10.setCell ⟨g, 9, none⟩ (.slice A10 (T.ws.length + 1) c10) := ⟨_, rfl⟩
  rw [← hW] at HTd hBd p0 p1 p2 p3 p4 p5 ⊢
  clear hW
  go_wp2_with fail
  refine (HE.out _).mono ?_
  rintro e w12 ⟨rfl, hb12⟩
  have HTe := hid (HTd.out.on hb12)
  have hBe := hBd.trans (hb12.mono HTd.out.le9)
  clear HTd hBd p0 p1 p2 p3 p4 p5
  go_wp2_with fail
  refine (HFo.out _ _ HTe.out.blk HTe.out.kat HTe.out.psAt HTe.out.ps HTe.out.le9 HTe.out.ne_row).mono ?_
  rintro e w13 ⟨rfl, A13, c13, hk13, ho13, hn13⟩
  have HTf := hid (HTe.out.follow hk13 ho13 hn13 rfl rfl rfl rfl)
  have hBf := hBe.trans (HTe.out.near_below hn13)
  clear hk13 ho13 hn13
  go_wp2
  go_ret
  exact ⟨rfl, ⟨_, _, _, _, _, HX.out ▸ HTf.out⟩, hBf⟩
end

section
open Go.ChangeShapes Go.WideShapes Go.ChangeAt Go.RowKit Go.Joins
set_option linter.unusedVariables false

set_option maxHeartbeats 4000000 in
set_option maxRecDepth 100000 in
theorem c_step_code (g B : Nat) (T : Tr) (A : Option Addr) (cap : Nat) (vc vw vd : Value) (w : World) (hT : T.Ok) (hn : T.n < 1000000) (hcl : T.cs.length < 3100) (h : TrW w B g T A cap vc vw vd) (C : Int) (hf : T.k.Fol C) (hs : T.sz + (T.k.any C).length ≤ 2000) (hdl : T.ds.length ≤ 2000) :
  Calls Tryz.prog 165 #[.pointer (some ⟨g, 0, none⟩), .int .i64 C] w fun e w' => e = .returned (.int .i64 1) ∧ TrailAt w' B g (T.next C) ∧ Below B w w' := by
 have hk := hT.kn
 have hgb := hk.great_bd
 have hcb := hk.cbd
 have hfi := (hk.fol_iff C).1 hf
 have hal := hk.any_len hf
 have HF := hid (fun (v : World) (hv : KAt v g T.k (.slice A T.k.ps.length cap)) => c_canFollow g T.k A cap v hk hv C)
 simp only [decide_eq_true (show 0 ≤ C ∧ C ≤ T.k.great from ⟨hfi.1, hfi.2.1⟩)] at HF
 have HS := hid (fun (v : World) (hv : KAt v g T.k (.slice A T.k.ps.length cap)) => c_standsForWord g T.k A cap v hk hv C)
 simp only [decide_eq_true hf] at HS
 have HWd := hid (fun (v : World) (hv : KAt v g T.k (.slice A T.k.ps.length cap)) => c_width g T.k A cap v hk hv)
 have HE := hid (fun (v : World) => c_EndCode_yes T.k.o T.k.l T.k.m v hk.set)
 have HFo := hid (fun (v : World) (cs : Array Value) (q1 : Blk v g 152 cs) (q2 : KAt v g T.k (.slice A T.k.ps.length cap)) (q3 : PsAt v v.heap.size A cap T.k.ps) (q4 : v.ownsRow B 175 2 (.slice A T.k.ps.length cap) T.k.ps.length (prs T.k.ps)) (q5 : B ≤ v.heap.size) (q6 : ∀ g', A = some ⟨g', 0, none⟩ → g' ≠ g) => c_follow_code g B 152 cs T.k A cap v hk q1 q2 q3 q4 q5 q6 tyne_tp C hf)
 have HW := hid (fun (v : World) (hv : KAt v g T.k (.slice A T.k.ps.length cap)) (hp : PsAt v v.heap.size A cap T.k.ps) => c_word g T.k A cap v.heap.size v hk hv hp (Nat.le_refl _) C hf)
 obtain ⟨D, hD⟩ : ∃ D, D = T.k.any C := ⟨_, rfl⟩
 have HX := hid (show (⟨T.k.after C, T.n + 1, T.sz + D.length, T.cs ++ [C], T.ws ++ [T.k.width], T.ds ++ D⟩ : Tr) = T.next C by rw [hD]; simp [Tr.next, Kn.step, Kn.part_code _ _ hfi.2.2.1 hfi.2.2.2, hfi.2.2.1])
 have hCne : (C == pow2 T.k.l + 1) = false := by rw [beq_eq_false_iff_ne]; exact hfi.2.2.2
 rw [← hD] at hs hal
 simp only [← hD] at HW
 obtain ⟨W0, hW0⟩ : ∃ W0, W0 = str D := ⟨_, rfl⟩
 have hWs : W0.size = D.length := by rw [hW0, str_size]
 have HWl := hid (show W0.data.toList = D by rw [hW0, str_list])
 simp only [← hW0] at HW
 have hW1 : W0.size ≤ 1022 := by omega
 have hW2 : (T.sz : Int) + (W0.size : Int) ≤ 2000 := by omega
 have HWs := hid hWs
 have hwn : T.ws.length ≤ 3100 := by have := hT.lens; omega
 have HT := hid h
 clear h hk hT hgb hcb hD hW0 hWs hs hal hfi hf
 have hg := HT.out.lt
 go_enter Tryz.func165, Tryz.ntmps165
 go_wp2_with fail
 refine (HF.out _ HT.out.kat).mono ?_
 rintro e w1 ⟨rfl, hb1⟩
 go_wp2_with fail
 refine (HS.out _ (HT.out.on hb1).kat).mono ?_
 rintro e w2 ⟨rfl, hb2⟩
 go_wp2_with fail
 refine (HW.out _ ((HT.out.on hb1).on hb2).kat ((HT.out.on hb1).on hb2).psAt).mono ?_
 rintro e w3 ⟨rfl, hb3⟩
 have HTa := hid (((HT.out.on hb1).on hb2).on hb3)
 have hBa : Below B w w3 := ((hb1.mono HT.out.le9).trans (hb2.mono (HT.out.on hb1).le9)).trans (hb3.mono ((HT.out.on hb1).on hb2).le9)
 clear hb1 hb2 hb3
 obtain ⟨_, _, _, _, _, _, _, q7, _, _, q10⟩ := tcells HTa.out.blk
 have f7 := HTa.out.blk.frozen 7
 have HTb := hid (show TrW _ B g ⟨T.k, T.n, T.sz + D.length, T.cs, T.ws, T.ds⟩ A cap vc vw vd from HTa.out.set7 (T.sz + D.length) ((T.sz : Int) + (W0.size : Int)) (by rw [HWs.out]; omega))

 go_wp2_with (first | (at_builtin; refine app_str rfl (.tmp 43) (.tmp 44) 98 9 rfl B 5 Tryz.underlying98 Tryz.underlying9 Tryz.info_u8w _ T.ds.length T.ds rfl HTb.out.ds W0 rfl (by omega) (by have := HTb.out.le; have := HTb.out.lt; omega) ?_; intro v4 w4 hown4 hb4 hg4; obtain ⟨A4, c4, rfl⟩ := own_sl hown4; have k4 := HTb.out.blk.grown hg4 (apart_ne (own_apart_blk HTb.out.ds HTb.out.blk tyne_tu) rfl); have r4 := k4.cell 10; have f4 := k4.frozen 10; have u6 := k4.cell 6; have u8 := k4.cell 8; have g6 := k4.frozen 6; have HTc0 := hid (show TrW _ B g ⟨T.k, T.n, T.sz + D.length, T.cs, T.ws, T.ds ++ D⟩ A cap vc vw _ from HTb.out.put10 D (T.ds.length + W0.size) (by rw [HWs.out]) (by rw [← HWl.out]; exact hown4) hg4); have hB0 : Below B w (w4.setCell ⟨g, 10, none⟩ (.slice A4 (T.ds.length + W0.size) c4)) := ((hBa.trans (HTa.out.bel6 7 _)).trans hb4).setCell HTb.out.le _; have HTc := hid (show TrW _ B g ⟨T.k, T.n + 1, T.sz + D.length, T.cs, T.ws, T.ds ++ D⟩ A cap vc vw _ from HTc0.out.set6 (T.n + 1) ((T.n : Int) + 1) (by omega)); clear k4 hown4 hb4 hg4 q7 q10 f7) | (at_builtin; go_loud (refine app_int2 rfl (.tmp 59) (.tmp 61) 126 rfl B 3 Tryz.underlying126 Tryz.info_int _ T.cs.length T.cs rfl HTc.out.cs C _ rfl 1 (by first | with_reducible rfl | simp [Act.eval]) (by omega) (by have := HTc.out.le; have := HTc.out.lt; omega) ?_; intro v8 w8 hown8 hb8 hg8 hf8; obtain ⟨A8, c8, rfl⟩ := own_sl hown8; have k8 := HTc.out.blk.grown hg8 (apart_ne (own_apart_blk HTc.out.cs HTc.out.blk tyne_ti) rfl); have r8 := k8.cell 8; have f8 := k8.frozen 8)))
 have HT8 := hid (show TrW _ B g ⟨T.k, T.n + 1, T.sz + D.length, T.cs ++ [C], T.ws, T.ds ++ D⟩ A cap _ vw (.slice A4 (T.ds.length + W0.size) c4) from HTc.out.put8 C T.cs.length rfl hown8 hg8 hf8)
 have hB8 : Below B w (w8.setCell ⟨g, 8, none⟩ (.slice A8 (T.cs.length + 1) c8)) := ((hB0.trans (HTc0.out.bel6 6 _)).trans hb8).setCell HTc.out.le _
 obtain ⟨_, _, _, _, _, _, _, _, _, s9, _⟩ := tcells HT8.out.blk
 clear k8 r8 f8 hown8 hb8 hg8 hf8
 go_region_law (first | (refine step_int (by rfl) (.tmp 69) (.tmp 74) 126 (by rfl) B 3 Tryz.underlying126 Tryz.info_int _ T.ws.length T.ws (by rfl) HT9.out.ws T.k.width 1 (by first | with_reducible rfl | simp [Act.eval]) (by omega) (by have := HT9.out.le; have := HT9.out.lt; omega) ?_; intro v10 w10 hown10 hb10 hg10 hf10; obtain ⟨A10, c10, rfl⟩ := own_sl hown10; have k10 := HT9.out.blk.grown hg10 (apart_ne (own_apart_blk HT9.out.ws HT9.out.blk tyne_ti) rfl); have r10 := k10.cell 9; have f10 := k10.frozen 9) | (go_simp; go_at_call 164; refine (HWd.out _ HT8.out.drew.kat).mono ?_; rintro e w9 ⟨rfl, hb9⟩; have HT9 := hid (HT8.out.drew.on hb9); have t9 := HT9.out.blk.cell 9; have u9 := (HT9.out.blk.alloc (.cells #[.int .i64 T.k.width] 3)).cell 9; have hB9 := hB8.trans ((bel_drew (Below.refl _ _)).mono HT8.out.le9); have hB9b := hB9.trans (hb9.mono HT8.out.le9)))
 all_goals
  have HTd := hid (show TrW _ B g ⟨T.k, T.n + 1, T.sz + D.length, T.cs ++ [C], T.ws ++ [T.k.width], T.ds ++ D⟩ A cap _ _ (.slice A4 (T.ds.length + W0.size) c4) from HT9.out.put9 T.k.width T.ws.length rfl hown10 hg10 hf10)
  have hBd : Below B w (w10.setCell ⟨g, 9, none⟩ (.slice A10 (T.ws.length + 1) c10)) := (hB9b.trans hb10).setCell HT9.out.le _
  clear k10 r10 f10 hown10 hb10 hg10 hf10 t9 u9 HT9 HT8 HTc s9
  obtain ⟨p0, p1, p2, p3, p4, p5, _, _, _, _, _⟩ := tcells HTd.out.blk
  obtain ⟨W, hW⟩ : ∃ W, W = w10.setCell ⟨g, 9, none⟩ (.slice A10 (T.ws.length + 1) c10) := ⟨_, rfl⟩
  rw [← hW] at HTd hBd p0 p1 p2 p3 p4 p5 ⊢
  clear hW
  go_wp2_with fail
  refine (HE.out _).mono ?_
  rintro e w12 ⟨rfl, hb12⟩
  have HTe := hid (HTd.out.on hb12)
  have hBe := hBd.trans (hb12.mono HTd.out.le9)
  clear HTd hBd p0 p1 p2 p3 p4 p5
  go_wp2_with fail
  refine (HFo.out _ _ HTe.out.blk HTe.out.kat HTe.out.psAt HTe.out.ps HTe.out.le9 HTe.out.ne_row).mono ?_
  rintro e w13 ⟨rfl, A13, c13, hk13, ho13, hn13⟩
  have HTf := hid (HTe.out.follow hk13 ho13 hn13 rfl rfl rfl rfl)
  have hBf := hBe.trans (HTe.out.near_below hn13)
  clear hk13 ho13 hn13
  go_wp2
  go_ret
  exact ⟨rfl, ⟨_, _, _, _, _, HX.out ▸ HTf.out⟩, hBf⟩
end

section
open Go.ChangeShapes Go.WideShapes Go.ChangeAt Go.RowKit Go.Joins
set_option linter.unusedVariables false

def StepTo (T : Tr) (B g : Nat) (code : Int) (w : World) (e : Ending) (w' : World) : Prop := e = .returned (.int .i64 (T.fin code)) ∧ TrailAt w' B g (T.goto_ code) ∧ Below B w w'
theorem c_step (g B : Nat) (T : Tr) (w : World) (hT : T.Ok) (hn : T.n < 1000000) (hcl : T.cs.length < 3100) (h : TrailAt w B g T) (code : Int) :
  Calls Tryz.prog 165 #[.pointer (some ⟨g, 0, none⟩), .int .i64 code] w (StepTo T B g code w) := by
 obtain ⟨A, cap, vc, vw, vd, h⟩ := h
 have hk := hT.kn
 by_cases he : code = T.k.c + 1
 ·subst he
  refine (c_step_end g B T A cap vc vw vd w hT hn hcl h).mono ?_
  rintro e w' ⟨h1, ⟨vc', vw', h2⟩, h3⟩
  exact ⟨by rw [h1, Tr.fin_end], ⟨A, cap, vc', vw', vd, by rw [Tr.to_zero Tr.fin_end]; exact h2⟩, h3⟩
 ·by_cases hc : code = T.k.c
  ·subst hc
   refine (c_step_clear g B T A cap vc vw vd w hT hn hcl h).mono ?_
   rintro e w' ⟨h1, h2, h3⟩
   exact ⟨by rw [h1, Tr.fin_clear hT], by rw [Tr.to_one (Tr.fin_clear hT)]; exact h2, h3⟩
  ·by_cases hf : T.k.Fol code
   ·by_cases hl : 2000 < T.sz + (T.k.any code).length
    ·have e1 : T.fin code = 3 := by rw [Tr.fin_code hk hf, if_pos hl]
     refine (c_step_long g B T A cap vc vw vd w hk h code hf hT.size hl).mono ?_
     rintro e w' ⟨h1, h2, h3⟩
     exact ⟨by rw [h1, e1], by rw [Tr.to_no (.inr e1)]; exact ⟨_, _, _, _, _, h2⟩, h3.mono h.le9⟩
    ·have e1 : T.fin code = 1 := by rw [Tr.fin_code hk hf, if_neg hl]
     refine (c_step_code g B T A cap vc vw vd w hT hn hcl h code hf (by omega) hT.data).mono ?_
     rintro e w' ⟨h1, h2, h3⟩
     exact ⟨by rw [h1, e1], by rw [Tr.to_one e1]; exact h2, h3⟩
   ·have hno : ¬ (0 ≤ code ∧ code ≤ T.k.great) := by
     rw [hk.fol_iff] at hf
     omega
    have e1 := Tr.fin_wrong hk hno
    refine (c_step_wrong g B T A cap vc vw vd w hk h code hno).mono ?_
    rintro e w' ⟨h1, h2, h3⟩
    exact ⟨by rw [h1, e1], by rw [Tr.to_no (.inl e1)]; exact ⟨_, _, _, _, _, h2⟩, h3.mono h.le9⟩

end
end Go.Proofs.YtmlaaammfnboiaaGreatDoor
