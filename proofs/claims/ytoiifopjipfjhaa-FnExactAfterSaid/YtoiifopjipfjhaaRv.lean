/- The contract of the library's slices.Reverse at bytes that the caller owns. No condition. -/
import Derived.Test.YtoiifopjipfjhaaOwn
import Derived.Test.YtoiifopjipfjhaaPl
import Derived.Test.YtoiifopjipfjhaaChecked
namespace Go.Proofs.Ytoiifopjipfjhaa
open Go.ChangeShapes Go.WideShapes Go.ChangeAt Go.RowKit Go.Joins
set_option linter.unusedVariables false

/-- the first k and the last k elements exchanged -/
def rv (l : List UInt8) (k : Nat) : List UInt8 := (List.range l.length).map fun i => if i < k ∨ l.length ≤ i + k then (l[l.length - 1 - i]?).getD 0 else (l[i]?).getD 0
theorem rv_len (l : List UInt8) (k : Nat) : (rv l k).length = l.length := by simp [rv]
theorem rv_get (l : List UInt8) (k i : Nat) (h : i < l.length) : (rv l k)[i]? = some (if i < k ∨ l.length ≤ i + k then (l[l.length - 1 - i]?).getD 0 else (l[i]?).getD 0) := by simp [rv, h]
theorem rv_zero (l : List UInt8) : rv l 0 = l := by
  apply List.ext_getElem?
  intro i
  by_cases h : i < l.length
  · rw [rv_get _ _ _ h, if_neg (by omega), List.getElem?_eq_getElem h]; rfl
  · rw [List.getElem?_eq_none (by rw [rv_len]; omega), List.getElem?_eq_none (by omega)]
theorem rv_all (l : List UInt8) (k : Nat) (h : l.length ≤ 2 * k + 1) : rv l k = l.reverse := by
  apply List.ext_getElem?
  intro i
  by_cases hi : i < l.length
  · rw [rv_get _ _ _ hi, List.getElem?_reverse hi]
    split
    · rw [List.getElem?_eq_getElem (by omega)]; rfl
    · have : l.length - 1 - i = i := by omega
      rw [this, List.getElem?_eq_getElem hi]; rfl
  · rw [List.getElem?_eq_none (by rw [rv_len]; omega), List.getElem?_eq_none (by simp; omega)]
theorem rv_step (l : List UInt8) (k : Nat) (h : 2 * k + 1 < l.length) : rv l (k + 1) = ((rv l k).set k ((l[l.length - 1 - k]?).getD 0)).set (l.length - 1 - k) ((l[k]?).getD 0) := by
  apply List.ext_getElem?
  intro i
  by_cases hi : i < l.length
  · rw [rv_get _ _ _ hi, List.getElem?_set, List.length_set, rv_len]
    by_cases h1 : l.length - 1 - k = i
    · rw [if_pos h1, if_pos (by omega), if_pos (by omega)]
      have : l.length - 1 - i = k := by omega
      rw [this]
    · rw [if_neg h1, List.getElem?_set, rv_len]
      by_cases h2 : k = i
      · rw [if_pos h2, if_pos (by omega), if_pos (by omega), h2]
      · rw [if_neg h2, rv_get _ _ _ hi]
        by_cases h3 : i < k ∨ l.length ≤ i + k
        · rw [if_pos (by omega), if_pos h3]
        · rw [if_neg (by omega), if_neg h3]
  · rw [List.getElem?_eq_none (by rw [rv_len]; omega), List.getElem?_eq_none (by simp [rv_len]; omega)]
theorem rv_mid (l : List UInt8) (k : Nat) (h : 2 * k + 1 < l.length) : (rv l k)[k]? = some ((l[k]?).getD 0) ∧ (rv l k)[l.length - 1 - k]? = some ((l[l.length - 1 - k]?).getD 0) := by
  constructor
  · rw [rv_get _ _ _ (by omega), if_neg (by omega)]
  · rw [rv_get _ _ _ (by omega), if_neg (by omega)]

theorem own_bytes_set {w : World} {B : Nat} {e : TypeId} {G n cap : Nat} {l : List UInt8} (h : w.ownsRow B e 1 (.slice (some ⟨G, 0, none⟩) n cap) n (l.map vb)) (k : Nat) (c : UInt8) :
    (w.setCell ⟨G, k, none⟩ (.int .u8 (c.toNat : Int))).ownsRow B e 1 (.slice (some ⟨G, 0, none⟩) n cap) n ((l.set k c).map vb) := by
  have h1 := (h.stored k (.int .u8 (c.toNat : Int))).1
  have e1 : (l.map vb).set k (.int .u8 (c.toNat : Int)) = (l.set k c).map vb := by rw [List.map_set]; rfl
  rw [← e1]; exact h1
theorem own_byte {w : World} {B : Nat} {e : TypeId} {G n cap : Nat} {l : List UInt8} (h : w.ownsRow B e 1 (.slice (some ⟨G, 0, none⟩) n cap) n (l.map vb)) (k : Nat) (c : UInt8) (hk : l[k]? = some c) : w.cell? ⟨G, k, none⟩ = some (.int .u8 (c.toNat : Int)) := by
  have hl := own_len h
  have hk2 := get_lt hk
  rw [h.cellAt k (by omega), List.getElem?_map, hk]
  rfl

theorem c_Reverse (B G cap n : Nat) (l : List UInt8) (w : World) (h : w.ownsRow B 5 1 (.slice (some ⟨G, 0, none⟩) n cap) n (l.map vb)) (hn : n ≤ 1000000) : Calls Try.prog 183 #[.slice (some ⟨G, 0, none⟩) n cap] w fun e w' => e = .returned (.tuple #[]) ∧ w'.ownsRow B 5 1 (.slice (some ⟨G, 0, none⟩) n cap) n (l.reverse.map vb) ∧ w.grownBy w' (some G) := by
  have hl := own_len h
  have HH := hid h
  have HL := hid hl
  clear h hl
  go_enter Try.func183, Try.ntmps183
  go_wp2_with fail
  go_loopw [2, 3] (fun i j wr => ∃ k : Nat, 2 * k ≤ n + 1 ∧ i = .int .i64 k ∧ j = .int .i64 ((n : Int) - 1 - k) ∧ wr.ownsRow B 5 1 (.slice (some ⟨G, 0, none⟩) n cap) n ((rv l k).map vb) ∧ w.grownBy wr (some G)) (fun i _ _ => n - (intOf i).toNat)
  case atStart => exact ⟨0, by omega, rfl, by simp, by rw [rv_zero]; exact HH.out, grown_refl _ _⟩
  case round =>
    obtain ⟨k, hk, rfl, rfl, hown, hgr⟩ := hrel
    by_cases hlt : 2 * k + 1 < n
    · have HM := hid (rv_mid l k (by have := HL.out; omega))
      have HS := hid (rv_step l k (by have := HL.out; omega))
      rw [HL.out] at HM HS
      obtain ⟨x, hx⟩ : ∃ x, x = (l[k]?).getD 0 := ⟨_, rfl⟩
      obtain ⟨y, hy⟩ : ∃ y, y = (l[n - 1 - k]?).getD 0 := ⟨_, rfl⟩
      rw [← hx, ← hy] at HM HS
      clear hx hy
      obtain ⟨m, hm⟩ : ∃ m : Nat, m = n - 1 - k := ⟨_, rfl⟩
      have hm2 : ((n : Int) - 1 - k) = (m : Int) := by omega
      rw [← hm] at HM HS
      rw [hm2]
      have HMk := hid hm
      have hmn : m < n := by omega
      have hkm : k < m := by omega
      clear hm hm2
      have q0 := own_byte hown k x HM.out.1
      have q1 := own_byte hown m y HM.out.2
      have f0 := hown.frozenAt k
      have f1 := hown.frozenAt m
      have hst := own_bytes_set (own_bytes_set hown k y) m x
      rw [← HS.out] at hst
      have hst2 := grown_set (grown_set hgr k (.int .u8 (y.toNat : Int))) m (.int .u8 (x.toNat : Int))
      have HT := hid (And.intro hst hst2)
      clear hst hst2 hown hgr
      go_wp2_with fail
      go_region
      all_goals
        go_wp2
        go_roundw
        case rel => exact ⟨k + 1, by omega, by go_num, vint (by have := HMk.out; omega), (HT.out.1).drew, grown_drew HT.out.2⟩
        case measure => simp [intOf]; omega
    · have hlast : rv l k = l.reverse := rv_all l k (by have := HL.out; omega)
      have HD := hid hlast
      rw [HD.out] at hown
      clear hlast
      go_wp2

      exact bodyPost_end (v := .tuple #[]) (by simp [results, Try.results183, go_sem]) rfl ⟨rfl, hown, hgr⟩
end Go.Proofs.Ytoiifopjipfjhaa
