/- Bytes that the call itself has gathered, in a row that may begin anywhere in its block: read back as a string, cut, appended to. No condition. -/
import Derived.Test.YtmlaaammfnboiaaGreatDoorBa
import Derived.Maps.AppendAt
namespace Go.Proofs.YtmlaaammfnboiaaGreatDoor
open Go.ChangeShapes Go.WideShapes Go.ChangeAt Go.RowKit Go.Joins
set_option linter.unusedVariables false
set_option linter.unusedSimpArgs false

/-- the slice v owns the bytes l, wherever in its block they begin -/
def OwnO (w : World) (B : Nat) (e : TypeId) (v : Value) (l : List UInt8) : Prop :=
 (v = .slice none 0 0 ∧ l = []) ∨ ∃ g off cap cur, v = .slice (some ⟨g, off, none⟩) l.length cap ∧ B ≤ g ∧ w.heap[g]? = some (.cells cur e (0, 0)) ∧ l.length ≤ cap ∧ cap ≤ maxLen ∧ off + cap ≤ cur.size ∧ ∀ j (hj : j < l.length), cur[off + j]? = some (vb l[j])

theorem addr_add (g off j : Nat) : ((⟨g, off, none⟩ : Addr).add j) = ⟨g, off + j, none⟩ := by unfold Addr.add; split <;> simp_all

theorem ownO_of {w : World} {B : Nat} {e : TypeId} {v : Value} {n : Nat} {l : List UInt8} (h : w.ownsRow B e 1 v n (l.map vb)) : OwnO w B e v l := by
 obtain ⟨hl, h⟩ := h
 simp only [List.length_map, Nat.mul_one] at hl
 subst hl
 rcases h with ⟨rfl, h0⟩ | ⟨g, cap, cur, rfl, hb, hh, hnc, hcm, hsz, htk⟩
 ·exact Or.inl ⟨by rfl, List.eq_nil_of_length_eq_zero h0⟩
 ·refine Or.inr ⟨g, 0, cap, cur, rfl, hb, hh, hnc, hcm, by omega, ?_⟩
  intro j hj
  have h4 : (cur.toList.take (l.length * 1))[j]? = (l.map vb)[j]? := by rw [htk]
  rw [List.getElem?_take, if_pos (by omega)] at h4
  have h5 : cur[0 + j]? = cur.toList[j]? := by simp
  rw [h5, h4, List.getElem?_map, List.getElem?_eq_getElem hj]
  rfl
theorem ownO_nil (w : World) (B : Nat) (e : TypeId) : OwnO w B e (.slice none 0 0) [] := Or.inl ⟨rfl, rfl⟩
theorem OwnO.mono {w : World} {B B' : Nat} {e : TypeId} {v : Value} {l : List UInt8} (h : OwnO w B e v l) (hB : B' ≤ B) : OwnO w B' e v l := by
 rcases h with h | ⟨g, off, cap, cur, h1, h2, h3⟩
 ·exact Or.inl h
 ·exact Or.inr ⟨g, off, cap, cur, h1, Nat.le_trans hB h2, h3⟩
theorem OwnO.keep {w w' : World} {B : Nat} {e : TypeId} {v : Value} {l : List UInt8} (h : OwnO w B e v l) (hk : ∀ g cs, v.ownBlock = some g → Blk w g e cs → Blk w' g e cs) : OwnO w' B e v l := by
 rcases h with h | ⟨g, off, cap, cur, h1, h2, h3, h4⟩
 ·exact Or.inl h
 ·exact Or.inr ⟨g, off, cap, cur, h1, h2, hk g cur (by rw [h1]; rfl) h3, h4⟩
theorem OwnO.on {w w' : World} {B : Nat} {e : TypeId} {v : Value} {l : List UInt8} (h : OwnO w B e v l) (hb : Below w.heap.size w w') : OwnO w' B e v l :=
 h.keep fun g cs _ hg => Blk.on hg hb
theorem OwnO.elem {w : World} {B : Nat} {e : TypeId} {v : Value} {l : List UInt8} (h : OwnO w B e v l) (b : Nat) (hb : v.ownBlock = some b) : B ≤ b ∧ b < w.heap.size ∧ ∃ cs, Blk w b e cs := by
 rcases h with ⟨rfl, rfl⟩ | ⟨g, off, cap, cur, rfl, h2, h3, h4⟩
 ·simp [Value.ownBlock] at hb
 ·simp [Value.ownBlock] at hb
  subst hb
  exact ⟨h2, (Array.getElem?_eq_some_iff.1 h3).1, cur, h3⟩
/-- the bytes as a string -/
theorem OwnO.run_str {P : Program} {w : World} {B : Nat} {e : TypeId} {v : Value} {l : List UInt8} {src dst : TypeId} (hs : P.underlying src = some (.slice e)) (he : P.underlying e = some (.int .u8)) (hd : P.underlying dst = some .string)
  (h : OwnO w B e v l) : (convert src dst v).run P w = .ok (.string (str l)) w := by
 rcases h with ⟨rfl, rfl⟩ | ⟨g, off, cap, cur, rfl, h2, h3, h4, h5, h6, h8⟩
 ·rw [run_convert_bytes_string w src dst e none 0 0 hs he hd]
  simp [Conv.bytesToString]
  rfl
 ·refine run_convert_bytes_back w src dst e ⟨g, off, none⟩ cap l hs he hd ?_
  intro j hj
  rw [addr_add]
  have : w.cell? ⟨g, off + j, none⟩ = cur[off + j]? := cell_of_row w g (off + j) cur e (0, 0) h3
  rw [this, h8 j hj]
  rfl
/-- the first m of them -/
theorem OwnO.take {P : Program} {w : World} {B : Nat} {e t : TypeId} {v : Value} {l : List UInt8} (h : OwnO w B e v l) (ht : P.underlying t = some (.slice e)) (hz : (P.info? e).map (fun i => (i.zero, i.size, i.bytes)) = some (some (.int .u8 0), 1, 1)) (m : Nat) (hm : m ≤ l.length) :
  ∃ v', (∀ wx, (Instr.slice t v none (some (.int .i64 (m : Int))) none).run P wx = .ok v' wx) ∧ OwnO w B e v' (l.take m) := by
 have he : P.elem t = e := by simp [Program.elem, ht]
 have hsz : ∀ wx, (sizeOf (P.elem t)).run P wx = .ok 1 wx := by
  intro wx
  obtain ⟨i0, hi, hz0, hz1, hz2⟩ := info_parts hz
  rw [he]
  simp [sizeOf, typeInfo, hi, hz1]
 rcases h with ⟨rfl, rfl⟩ | ⟨g, off, cap, cur, rfl, h2, h3, h4, h5, h6, h8⟩
 ·simp at hm
  subst hm
  refine ⟨.slice none 0 0, fun wx => ?_, Or.inl ⟨rfl, by simp⟩⟩
  rw [run_slice_h wx t none 0 0 (by rw [he]; exact ht) .i64 (0 : Nat) (by simp) (by simp), hsz]
  simp [sliced, Result.andThen]
 ·refine ⟨.slice (some ⟨g, off, none⟩) m cap, fun wx => ?_, Or.inr ⟨g, off, cap, cur, by rw [List.length_take, Nat.min_eq_left hm], h2, h3, by rw [List.length_take]; omega, h5, h6, ?_⟩⟩
  ·rw [run_slice_h wx t _ _ cap (by rw [he]; exact ht) .i64 (m : Nat) (by simp) (by omega), hsz]
   simp [sliced, Result.andThen, addr_add]
  ·intro j hj
   rw [List.length_take] at hj
   rw [h8 j (by omega)]
   simp
/-- all but the first m of them -/
theorem OwnO.drop {P : Program} {w : World} {B : Nat} {e t : TypeId} {v : Value} {l : List UInt8} (h : OwnO w B e v l) (ht : P.underlying t = some (.slice e)) (hz : (P.info? e).map (fun i => (i.zero, i.size, i.bytes)) = some (some (.int .u8 0), 1, 1)) (m : Nat) (hm : m ≤ l.length) :
  ∃ v', (∀ wx, (Instr.slice t v (some (.int .i64 (m : Int))) none none).run P wx = .ok v' wx) ∧ OwnO w B e v' (l.drop m) ∧ ∀ g, v'.ownBlock = some g → v.ownBlock = some g := by
 have he : P.elem t = e := by simp [Program.elem, ht]
 have hsz : ∀ wx, (sizeOf (P.elem t)).run P wx = .ok 1 wx := by
  intro wx
  obtain ⟨i0, hi, hz0, hz1, hz2⟩ := info_parts hz
  rw [he]
  simp [sizeOf, typeInfo, hi, hz1]
 rcases h with ⟨rfl, rfl⟩ | ⟨g, off, cap, cur, rfl, h2, h3, h4, h5, h6, h8⟩
 ·simp at hm
  subst hm
  refine ⟨.slice none 0 0, fun wx => ?_, Or.inl ⟨rfl, by simp⟩, fun g hg => hg⟩
  rw [run_slice_l wx t none 0 0 (by rw [he]; exact ht) .i64 (0 : Nat) (by simp) (by simp), hsz]
  simp [sliced, Result.andThen]
 ·refine ⟨.slice (if cap = m then some ⟨g, off, none⟩ else some ⟨g, off + m, none⟩) (l.length - m) (cap - m), fun wx => ?_, Or.inr ?_, ?_⟩
  ·rw [run_slice_l wx t _ _ cap (by rw [he]; exact ht) .i64 (m : Nat) (by simp) (by omega), hsz]
   simp [sliced, Result.andThen, addr_add]
  ·by_cases hc : cap = m
   ·exact ⟨g, off, cap - m, cur, by rw [if_pos hc, List.length_drop], h2, h3, by rw [List.length_drop]; omega, by omega, by omega, fun j hj => by rw [List.length_drop] at hj; omega⟩
   ·refine ⟨g, off + m, cap - m, cur, by rw [if_neg hc, List.length_drop], h2, h3, by rw [List.length_drop]; omega, by omega, by omega, ?_⟩
    intro j hj
    rw [List.length_drop] at hj
    rw [show off + m + j = off + (m + j) from by omega, h8 (m + j) (by omega)]
    simp
  ·intro g2 hg2
   by_cases hc : cap = m
   ·rw [if_pos hc] at hg2; simpa [Value.ownBlock] using hg2
   ·rw [if_neg hc] at hg2; simpa [Value.ownBlock] using hg2
end Go.Proofs.YtmlaaammfnboiaaGreatDoor
