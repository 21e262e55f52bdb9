/- Contracts of FormatHex and ParseHex in both programs. -/
import Derived.Test.YtmfnfheahehpcaaGreatDoorBit
import Derived.Deep.RegionLaw
namespace Go.Proofs.YtmfnfheahehpcaaGreatDoor
open Go.ChangeShapes Go.WideShapes Go.ChangeAt Go.RowKit Go.Joins
set_option linter.unusedVariables false

/-- The same, as one step of a region that draws its order. -/
theorem step_two {P : Program} {W : World} {ops : Array Oper} {o : Oper} {a : Act} {K : Act → World → Prop} {Q : Exit → Act → World → Prop} {E : Prop} (hgd : o.guard = none) (s x : Operand) (t : TypeId)
    (ho : o.op = .call { callee := .builtin .append, args := #[s, x], argTypes := #[t, t] }) (B : Nat) (e : TypeId) (ht : P.underlying t = some (.slice e))
    (hinfo : (P.info? e).map (fun i => (i.zero, i.size, i.bytes)) = some (some (.int .u8 0), 1, 1)) (v : Value) (n : Nat) (l : List UInt8) (hs : a.eval s = v) (hown : W.ownsRow B e 1 v n (l.map vb)) (c d : UInt8) (X Y : Int) (hX : X = (c.toNat : Int)) (hY : Y = (d.toNat : Int)) (g cp : Nat)
    (hx : a.eval x = .slice (some ⟨g, 0, none⟩) 2 cp) (h0 : W.cell? ⟨g, 0, none⟩ = some (.int .u8 X)) (h1 : W.cell? ⟨g, 1, none⟩ = some (.int .u8 Y)) (hn : n ≤ 100000000000) (hB : B ≤ W.heap.size)
    (h : ∀ v' w', w'.ownsRow B e 1 v' (n + 2) ((l ++ [c, d]).map vb) → Below B W w' → W.grownBy w' v.ownBlock → K (a.put o.dst v') w') : if Region.wanted o (yielded ops a.tmps) = true then Oper.wp P o a W K Q else E := by
  have hw : Region.wanted o (yielded ops a.tmps) = true := by simp [Region.wanted, hgd]
  rw [if_pos hw]
  obtain ⟨i0, hi, hz0, hz1, hz2⟩ := info_parts hinfo
  refine wp_append_own W s x t ho B e i0 (.int .u8 0) 1 1 ht hi hz0 hz1 hz2 rfl (by decide) v n (l.map vb) hs hown ⟨g, 0, none⟩ 2 cp [.int .u8 X, .int .u8 Y] hx rfl ?_ ?_ ?_ (by omega) hB ?_
  · intro j u hj
    match j, hj with
    | 0, hj =>
      simp at hj
      subst hj
      have : ((⟨g, 0, none⟩ : Addr).add 0) = ⟨g, 0, none⟩ := by simp [Addr.add]
      rw [this]; exact h0
    | 1, hj =>
      simp at hj
      subst hj
      have : ((⟨g, 0, none⟩ : Addr).add 1) = ⟨g, 1, none⟩ := by simp [Addr.add]
      rw [this]; exact h1
  · intro u hu; simp at hu; rcases hu with rfl | rfl <;> rfl
  · unfold maxLen; omega
  · intro v' w' hown' hg _
    refine h v' w' ?_ (below_of_grown hg hB (fun g hg => (hown.lt g hg).1)) hg
    rw [List.map_append]
    have e1 : [Value.int .u8 X, .int .u8 Y] = [c, d].map vb := by simp [vb, hX, hY]
    rw [← e1]; exact hown'

def hexS : ByteArray := ⟨#[48, 49, 50, 51, 52, 53, 54, 55, 56, 57, 97, 98, 99, 100, 101, 102]⟩
theorem hex_at : ∀ n : Fin 16, hexS[n.val]? = some (M.hexd n.val) := by decide
theorem hexS_at (n : Nat) (hn : n < 16) (h : n < hexS.size) : hexS[n]'h = M.hexd n := by
  have h1 := hex_at ⟨n, hn⟩
  have h2 : hexS[n]? = some (M.hexd n) := h1
  rw [getElem?_pos hexS n h] at h2
  exact Option.some.inj h2
theorem hex_index {P : Program} {t : TypeId} (ht : P.underlying t = some .string) (n : Nat) (hn : n < 16) (k : IntKind) (X : Int) (hX : X = (n : Int)) (w : World) :
    (Instr.index t (.string ⟨#[48, 49, 50, 51, 52, 53, 54, 55, 56, 57, 97, 98, 99, 100, 101, 102]⟩) (.int k X)).run P w = .ok (.int .u8 ((M.hexd n).toNat : Int)) w := by
  subst hX
  have hs : hexS.size = 16 := rfl
  have hb : 0 ≤ (n : Int) ∧ (n : Int) < (hexS.size : Int) := by omega
  have e := run_index_string (P := P) (w := w) t hexS k (n : Int) ht
  rw [dif_pos hb] at e
  refine e.trans ?_
  have e2 := hexS_at (n : Int).toNat (by omega) (by omega)
  rw [e2]; rfl
end Go.Proofs.YtmfnfheahehpcaaGreatDoor
