/- Bytes that the call itself has gathered, in a row that may begin anywhere in its block: read back as a string, cut, appended to. No condition. -/
import Derived.Test.YtaiemogcboidhaaGreatDoorBa
import Derived.Maps.AppendAt
namespace Go.Proofs.YtaiemogcboidhaaGreatDoor
open Go.ChangeShapes Go.WideShapes Go.ChangeAt Go.RowKit Go.Joins
set_option linter.unusedVariables false
set_option linter.unusedSimpArgs false

/-- the slice v owns the bytes l, wherever in its block they begin -/
def OwnO (w : World) (B : Nat) (e : TypeId) (v : Value) (l : List UInt8) : Prop :=
  (v = .slice none 0 0 ∧ l = []) ∨ ∃ g off cap cur, v = .slice (some ⟨g, off, none⟩) l.length cap ∧ B ≤ g ∧ w.heap[g]? = some (.cells cur e (0, 0)) ∧ l.length ≤ cap ∧ cap ≤ maxLen ∧ off + cap ≤ cur.size ∧ ∀ j (hj : j < l.length), cur[off + j]? = some (vb l[j])

theorem addr_add (g off j : Nat) : ((⟨g, off, none⟩ : Addr).add j) = ⟨g, off + j, none⟩ := by unfold Addr.add; split <;> simp_all

theorem ownO_of {w : World} {B : Nat} {e : TypeId} {v : Value} {n : Nat} {l : List UInt8} (h : w.ownsRow B e 1 v n (l.map vb)) : OwnO w B e v l := by
  obtain ⟨hl, h⟩ := h
  simp only [List.length_map, Nat.mul_one] at hl
  subst hl
  rcases h with ⟨rfl, h0⟩ | ⟨g, cap, cur, rfl, hb, hh, hnc, hcm, hsz, htk⟩
  · exact Or.inl ⟨by rfl, List.eq_nil_of_length_eq_zero h0⟩
  · refine Or.inr ⟨g, 0, cap, cur, rfl, hb, hh, hnc, hcm, by omega, ?_⟩
    intro j hj
    have h4 : (cur.toList.take (l.length * 1))[j]? = (l.map vb)[j]? := by rw [htk]
    rw [List.getElem?_take, if_pos (by omega)] at h4
    have h5 : cur[0 + j]? = cur.toList[j]? := by simp
    rw [h5, h4, List.getElem?_map, List.getElem?_eq_getElem hj]
    rfl
theorem ownO_nil (w : World) (B : Nat) (e : TypeId) : OwnO w B e (.slice none 0 0) [] := Or.inl ⟨rfl, rfl⟩
theorem OwnO.mono {w : World} {B B' : Nat} {e : TypeId} {v : Value} {l : List UInt8} (h : OwnO w B e v l) (hB : B' ≤ B) : OwnO w B' e v l := by
  rcases h with h | ⟨g, off, cap, cur, h1, h2, h3⟩
  · exact Or.inl h
  · exact Or.inr ⟨g, off, cap, cur, h1, Nat.le_trans hB h2, h3⟩
theorem OwnO.keep {w w' : World} {B : Nat} {e : TypeId} {v : Value} {l : List UInt8} (h : OwnO w B e v l) (hk : ∀ g cs, v.ownBlock = some g → Blk w g e cs → Blk w' g e cs) : OwnO w' B e v l := by
  rcases h with h | ⟨g, off, cap, cur, h1, h2, h3, h4⟩
  · exact Or.inl h
  · exact Or.inr ⟨g, off, cap, cur, h1, h2, hk g cur (by rw [h1]; rfl) h3, h4⟩
theorem OwnO.on {w w' : World} {B : Nat} {e : TypeId} {v : Value} {l : List UInt8} (h : OwnO w B e v l) (hb : Below w.heap.size w w') : OwnO w' B e v l :=
  h.keep fun g cs _ hg => Blk.on hg hb
theorem OwnO.sl {w : World} {B : Nat} {e : TypeId} {v : Value} {l : List UInt8} (h : OwnO w B e v l) : ∃ A cap, v = .slice A l.length cap := by
  rcases h with ⟨rfl, rfl⟩ | ⟨g, off, cap, cur, rfl, h2⟩
  · exact ⟨none, 0, rfl⟩
  · exact ⟨_, cap, rfl⟩
theorem OwnO.elem {w : World} {B : Nat} {e : TypeId} {v : Value} {l : List UInt8} (h : OwnO w B e v l) (b : Nat) (hb : v.ownBlock = some b) : B ≤ b ∧ b < w.heap.size ∧ ∃ cs, Blk w b e cs := by
  rcases h with ⟨rfl, rfl⟩ | ⟨g, off, cap, cur, rfl, h2, h3, h4⟩
  · simp [Value.ownBlock] at hb
  · simp [Value.ownBlock] at hb
    subst hb
    exact ⟨h2, (Array.getElem?_eq_some_iff.1 h3).1, cur, h3⟩
/-- the bytes as a string -/
theorem OwnO.run_str {P : Program} {w : World} {B : Nat} {e : TypeId} {v : Value} {l : List UInt8} {src dst : TypeId} (hs : P.underlying src = some (.slice e)) (he : P.underlying e = some (.int .u8)) (hd : P.underlying dst = some .string)
    (h : OwnO w B e v l) : (convert src dst v).run P w = .ok (.string (str l)) w := by
  rcases h with ⟨rfl, rfl⟩ | ⟨g, off, cap, cur, rfl, h2, h3, h4, h5, h6, h8⟩
  · rw [run_convert_bytes_string w src dst e none 0 0 hs he hd]
    simp [Conv.bytesToString]
    rfl
  · refine run_convert_bytes_back w src dst e ⟨g, off, none⟩ cap l hs he hd ?_
    intro j hj
    rw [addr_add]
    have : w.cell? ⟨g, off + j, none⟩ = cur[off + j]? := cell_of_row w g (off + j) cur e (0, 0) h3
    rw [this, h8 j hj]
    rfl
/-- the first m of them -/
theorem OwnO.take {P : Program} {w : World} {B : Nat} {e t : TypeId} {v : Value} {l : List UInt8} (h : OwnO w B e v l) (ht : P.underlying t = some (.slice e)) (hz : (P.info? e).map (fun i => (i.zero, i.size, i.bytes)) = some (some (.int .u8 0), 1, 1)) (m : Nat) (hm : m ≤ l.length) :
    ∃ v', (∀ wx, (Instr.slice t v none (some (.int .i64 (m : Int))) none).run P wx = .ok v' wx) ∧ OwnO w B e v' (l.take m) := by
  have he : P.elem t = e := by simp [Program.elem, ht]
  have hsz : ∀ wx, (sizeOf (P.elem t)).run P wx = .ok 1 wx := by
    intro wx
    obtain ⟨i0, hi, hz0, hz1, hz2⟩ := info_parts hz
    rw [he]
    simp [sizeOf, typeInfo, hi, hz1]
  rcases h with ⟨rfl, rfl⟩ | ⟨g, off, cap, cur, rfl, h2, h3, h4, h5, h6, h8⟩
  · simp at hm
    subst hm
    refine ⟨.slice none 0 0, fun wx => ?_, Or.inl ⟨rfl, by simp⟩⟩
    rw [run_slice_h wx t none 0 0 (by rw [he]; exact ht) .i64 (0 : Nat) (by simp) (by simp), hsz]
    simp [sliced, Result.andThen]
  · refine ⟨.slice (some ⟨g, off, none⟩) m cap, fun wx => ?_, Or.inr ⟨g, off, cap, cur, by rw [List.length_take, Nat.min_eq_left hm], h2, h3, by rw [List.length_take]; omega, h5, h6, ?_⟩⟩
    · rw [run_slice_h wx t _ _ cap (by rw [he]; exact ht) .i64 (m : Nat) (by simp) (by omega), hsz]
      simp [sliced, Result.andThen, addr_add]
    · intro j hj
      rw [List.length_take] at hj
      rw [h8 j (by omega)]
      simp
/-- all but the first m of them -/
theorem OwnO.drop {P : Program} {w : World} {B : Nat} {e t : TypeId} {v : Value} {l : List UInt8} (h : OwnO w B e v l) (ht : P.underlying t = some (.slice e)) (hz : (P.info? e).map (fun i => (i.zero, i.size, i.bytes)) = some (some (.int .u8 0), 1, 1)) (m : Nat) (hm : m ≤ l.length) :
    ∃ v', (∀ wx, (Instr.slice t v (some (.int .i64 (m : Int))) none none).run P wx = .ok v' wx) ∧ OwnO w B e v' (l.drop m) ∧ ∀ g, v'.ownBlock = some g → v.ownBlock = some g := by
  have he : P.elem t = e := by simp [Program.elem, ht]
  have hsz : ∀ wx, (sizeOf (P.elem t)).run P wx = .ok 1 wx := by
    intro wx
    obtain ⟨i0, hi, hz0, hz1, hz2⟩ := info_parts hz
    rw [he]
    simp [sizeOf, typeInfo, hi, hz1]
  rcases h with ⟨rfl, rfl⟩ | ⟨g, off, cap, cur, rfl, h2, h3, h4, h5, h6, h8⟩
  · simp at hm
    subst hm
    refine ⟨.slice none 0 0, fun wx => ?_, Or.inl ⟨rfl, by simp⟩, fun g hg => hg⟩
    rw [run_slice_l wx t none 0 0 (by rw [he]; exact ht) .i64 (0 : Nat) (by simp) (by simp), hsz]
    simp [sliced, Result.andThen]
  · refine ⟨.slice (if cap = m then some ⟨g, off, none⟩ else some ⟨g, off + m, none⟩) (l.length - m) (cap - m), fun wx => ?_, Or.inr ?_, ?_⟩
    · rw [run_slice_l wx t _ _ cap (by rw [he]; exact ht) .i64 (m : Nat) (by simp) (by omega), hsz]
      simp [sliced, Result.andThen, addr_add]
    · by_cases hc : cap = m
      · exact ⟨g, off, cap - m, cur, by rw [if_pos hc, List.length_drop], h2, h3, by rw [List.length_drop]; omega, by omega, by omega, fun j hj => by rw [List.length_drop] at hj; omega⟩
      · refine ⟨g, off + m, cap - m, cur, by rw [if_neg hc, List.length_drop], h2, h3, by rw [List.length_drop]; omega, by omega, by omega, ?_⟩
        intro j hj
        rw [List.length_drop] at hj
        rw [show off + m + j = off + (m + j) from by omega, h8 (m + j) (by omega)]
        simp
    · intro g2 hg2
      by_cases hc : cap = m
      · rw [if_pos hc] at hg2; simpa [Value.ownBlock] using hg2
      · rw [if_neg hc] at hg2; simpa [Value.ownBlock] using hg2
/-- 'append' of one byte -/
theorem OwnO.run_snoc {P : Program} {w : World} {B : Nat} {e t ty : TypeId} {v : Value} {l : List UInt8} (h : OwnO w B e v l) (ht : P.underlying t = some (.slice e)) (hinfo : (P.info? e).map (fun i => (i.zero, i.size, i.bytes)) = some (some (.int .u8 0), 1, 1))
    (a : Addr) (c : UInt8) (cp : Nat) (hx : w.cell? a = some (vb c)) (ha : a.add 0 = a) (hn : l.length ≤ 100000000000) (hB : B ≤ w.heap.size) :
    ∃ v' w', (Builtin.append_ #[t, t] ty #[v, .slice (some a) 1 cp]).run P w = .ok v' w' ∧ OwnO w' B e v' (l ++ [c]) ∧ w.grownBy w' v.ownBlock ∧ (v'.ownBlock = v.ownBlock ∨ v'.ownBlock = some w.heap.size) := by
  obtain ⟨i, hi, hz, hsize, hby⟩ := info_parts hinfo
  have hnews : ∀ j u, [vb c][j]? = some u → w.cell? (a.add j) = some u := by
    intro j u hj
    match j, hj with
    | 0, hj => simp at hj; subst hj; rw [ha]; exact hx
  have grown : ∀ (old : Nat) (row : Option Nat), OwnO (w.drew.alloc (.cells ((l.map vb).toArray ++ [vb c].toArray ++ Builtin.zeroCells (Value.int .u8 0).cells (grownCap w (l.length + 1) old e - (l.length + 1))) e)) B e (.slice (some ⟨w.heap.size, 0, none⟩) (l.length + 1) (grownCap w (l.length + 1) old e)) (l ++ [c]) ∧
      w.grownBy (w.drew.alloc (.cells ((l.map vb).toArray ++ [vb c].toArray ++ Builtin.zeroCells (Value.int .u8 0).cells (grownCap w (l.length + 1) old e - (l.length + 1))) e)) row := by
    intro old row
    have hge := grownCap_ge w (l.length + 1) old e
    have hcm : grownCap w (l.length + 1) old e ≤ maxLen := grownCap_le_maxLen w (l.length + 1) old e (by unfold maxLen; omega)
    refine ⟨Or.inr ⟨w.heap.size, 0, grownCap w (l.length + 1) old e, _, by simp, hB, heap_alloc_new w.drew _, by simp; omega, hcm, ?_, ?_⟩, grown_alloc (grown_drew (grown_refl w row)) _⟩
    · simp only [Array.size_append, List.size_toArray, size_zeroCells, List.length_map, List.length_singleton]
      have : (Value.int .u8 0).cells.size = 1 := rfl
      rw [this]
      omega
    · intro j hj
      have hj' : j < ((l ++ [c]).map vb).length := by simpa using hj
      have e1 : ((l.map vb).toArray ++ [vb c].toArray) = ((l ++ [c]).map vb).toArray := by simp
      rw [e1, Nat.zero_add, Array.getElem?_append_left (by simpa using hj')]
      simp only [List.getElem?_toArray]
      rw [List.getElem?_map, List.getElem?_eq_getElem hj]
      rfl
  rcases h with ⟨rfl, rfl⟩ | ⟨g, off, cap, cur, rfl, h2, h3, h4, h5, h6, h8⟩
  · have hr := run_append_nil (P := P) w t ty e i (.int .u8 0) ht hi hz a 1 cp [vb c] (by rw [hsize]; rfl) hnews (by omega) (by omega) (by rw [hby]; omega)
    have hgr := grown 0 (Value.ownBlock (.slice none 0 0))
    simp only [List.length_nil, Nat.zero_add, List.map_nil, List.nil_append, Array.empty_append] at hgr hr
    exact ⟨_, _, hr, by simpa using hgr.1, hgr.2, Or.inr rfl⟩
  · by_cases hroom : l.length + 1 ≤ cap
    · have hcell : w.cell? ⟨g, off + l.length, none⟩ = some cur[off + l.length] := by
        rw [cell_of_row w g (off + l.length) cur e (0, 0) h3]
        exact Array.getElem?_eq_getElem (by omega)
      have hfro : w.frozen? ⟨g, off + l.length, none⟩ = false := by
        simp [World.frozen?, h3]
      have hst : (store ((⟨g, off, none⟩ : Addr).add l.length) (vb c)).run P w = .ok () (w.setCell ⟨g, off + l.length, none⟩ (vb c)) := by
        rw [addr_add, run_store P w _ (vb c) _ rfl, hcell]
        simp [hfro]
      rw [addr_add] at hst
      have hh : (w.setCell ⟨g, off + l.length, none⟩ (vb c)).heap[g]? = some (.cells (cur.setIfInBounds (off + l.length) (vb c)) e (0, 0)) := by
        simp [World.setCell, Array.getElem?_modify, h3]
      have hf := run_firstCells_some (P := P) w 1 1 a 1 cp [vb c] (by rfl) hnews
      refine ⟨.slice (some ⟨g, off, none⟩) (l.length + 1) cap, w.setCell ⟨g, off + l.length, none⟩ (vb c), ?_, Or.inr ⟨g, off, cap, _, by simp, h2, hh, by simp; omega, h5, by simpa using h6, ?_⟩, ?_, Or.inl rfl⟩
      · simp [Builtin.append_, run_underlying ht, sizeOf, typeInfo, hi, hsize, Builtin.lenOf, hroom, hf, storeCells, hst, addr_add]
      · intro j hj
        by_cases hj2 : j < l.length
        · rw [Array.getElem?_setIfInBounds_ne (by omega), h8 j hj2]
          simp [List.getElem_append_left hj2]
        · have hj3 : j = l.length := by simp at hj; omega
          subst hj3
          rw [Array.getElem?_setIfInBounds_self_of_lt (by omega)]
          simp
      · exact grown_set (grown_refl w (some g)) (off + l.length) (vb c)
    · have hle : l.length = cap := by omega
      have holds : ∀ j u, (l.map vb)[j]? = some u → w.cell? ((⟨g, off, none⟩ : Addr).add j) = some u := by
        intro j u hj
        rw [addr_add, cell_of_row w g (off + j) cur e (0, 0) h3]
        rw [List.getElem?_map] at hj
        have hj2 : j < l.length := by
          by_cases hh : j < l.length
          · exact hh
          · rw [List.getElem?_eq_none (by omega)] at hj; simp at hj
        rw [h8 j hj2]
        rw [List.getElem?_eq_getElem hj2] at hj
        simpa using hj
      have hr := run_append_grow (P := P) w t ty e i (.int .u8 0) ht hi hz ⟨g, off, none⟩ l.length cap (l.map vb) (by rw [hsize]; simp) holds a 1 cp [vb c] (by rw [hsize]; rfl) hnews (by omega) (by omega) (growslice_fits (by omega) (by rw [hby]; omega))
      have hgr := grown cap (Value.ownBlock (.slice (some ⟨g, off, none⟩) l.length cap))
      exact ⟨_, _, hr, hgr.1, hgr.2, Or.inr rfl⟩
/-- steps that leave all old blocks but one as they were -/
theorem grown_step {a b c : World} {row row2 : Option Nat} (h : a.grownBy b row) (k : b.grownBy c row2) (hr : row2 = row ∨ ∃ g, row2 = some g ∧ a.heap.size ≤ g) : a.grownBy c row := by
  rcases hr with rfl | ⟨g, rfl, hg⟩
  · exact grown_trans h k
  · exact ⟨k.os.trans h.os, k.tape.trans h.tape, k.output.trans h.output, Nat.le_trans h.size k.size, fun i hi hne => (k.block i (Nat.lt_of_lt_of_le hi h.size) (by simp; omega)).trans (h.block i hi hne)⟩
/-- the same, for the walk: ONE goal is left -/
theorem app_byteO {P : Program} {w : World} {ops : Array Oper} {rest : List Oper} {o : Oper} {a : Act} {Q : Exit → Act → World → Prop} (hgd : o.guard = none) (s x : Operand) (t : TypeId)
    (ho : o.op = .call { callee := .builtin .append, args := #[s, x], argTypes := #[t, t] }) (B : Nat) (e : TypeId) (ht : P.underlying t = some (.slice e))
    (hinfo : (P.info? e).map (fun i => (i.zero, i.size, i.bytes)) = some (some (.int .u8 0), 1, 1)) (v : Value) (l : List UInt8) (hs : a.eval s = v) (hown : OwnO w B e v l) (c : UInt8) (X : Int) (hX : X = (c.toNat : Int)) (cp : Nat)
    (hx : a.eval x = .slice (some ⟨w.heap.size, 0, none⟩) 1 cp) (hn : l.length ≤ 100000000000) (hB : B ≤ w.heap.size)
    (h : ∀ v' w', OwnO w' B e v' (l ++ [c]) → w.grownBy w' v.ownBlock → (v'.ownBlock = v.ownBlock ∨ ∃ g, v'.ownBlock = some g ∧ w.heap.size ≤ g) → wpList P ops Q rest (a.put o.dst v') w') : wpList P ops Q (o :: rest) a (w.alloc (.cells #[.int .u8 X] e)) := by
  refine wpList_plain hgd fun K hK => ?_
  obtain ⟨v', w', hr, h2, h3, h4⟩ := (hown.on (bel_alloc (Below.refl _ w) (.cells #[.int .u8 X] e))).run_snoc (P := P) (ty := o.type) ht hinfo ⟨w.heap.size, 0, none⟩ c cp (by rw [(Blk.new w e #[.int .u8 X]).cell 0, hX]; rfl) rfl hn (by have := World.size_alloc w (.cells #[.int .u8 X] e); omega)
  unfold Oper.wp execOp
  simp only [ho, resolve, invoke, builtin, Sem.run_bind, Sem.run_pure, Result.andThen_ok, List.map_toArray, List.map_cons, List.map_nil, hs, hx, hr]
  exact hK _ _ (h v' w' h2 (grown_trans (World.grownBy_alloc w _ _) h3) (h4.imp id fun h5 => ⟨_, h5, by have := World.size_alloc w (.cells #[.int .u8 X] e); omega⟩))
end Go.Proofs.YtaiemogcboidhaaGreatDoor
