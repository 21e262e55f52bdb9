/- Plain mathematics: streams of codes. No condition. -/
import Derived.Test.YtfklkepodpcdgaaBr
import Derived.Test.YtfklkepodpcdgaaRq
import Derived.Test.YtfklkepodpcdgaaBk
import Derived.Test.YtfklkepodpcdgaaBj
import Derived.Test.YtfklkepodpcdgaaGm
namespace Go.Proofs.Ytfklkepodpcdgaa
set_option linter.unusedVariables false

theorem Kn.bitsOf_eq (k : Kn) (s : ByteArray) : k.bitsOf s = M.unpack (k.o == 1) s.data.toList := by
  rw [Kn.bitsOf, unpackL, bitsL_asc]
theorem Kn.bitsL_bits (k : Kn) (cs : List Int) : bitsL (str (k.bits cs)) = k.bl cs := by rw [Kn.bits_bl, bitsL_asc]
theorem Kn.packed_eq (k : Kn) (cs : List Int) : k.packed cs = str (M.pack (k.o == 1) (k.bl cs)) := by rw [Kn.packed, packS, Kn.bitsL_bits]
theorem Kn.packed_size (k : Kn) (cs : List Int) : (k.packed cs).size = ((k.bl cs).length + 7) / 8 := by rw [Kn.packed_eq, str_size, M.pack_length]
theorem Kn.bitsOf_packed (k : Kn) (cs : List Int) : k.bitsOf (k.packed cs) = M.pad (k.bl cs) := by
  rw [Kn.bitsOf_eq, Kn.packed_eq, str_list, M.unpack_pack]
theorem Kn.Ok.bl_ge {k : Kn} (h : k.Ok) {n : Nat} {cs : List Int} (hg : k.good n cs = true) : 2 * cs.length ≤ (k.bl cs).length ∧ (k.bl cs).length ≤ 10 * cs.length := by
  induction cs generalizing k n with
  | nil => simp [Kn.bl]
  | cons code t ih =>
    have hw := h.width_bd
    simp only [Kn.bl, List.length_append, Kn.cb_len, List.length_cons]
    by_cases h1 : code = k.c + 1
    · subst h1
      rw [Kn.good_end] at hg
      have : t = [] := by simpa using hg
      subst this; simp [Kn.bl]; omega
    · have hs := h.good_step hg h1
      have := ih hs.1 hs.2.2.2
      omega
theorem Kn.Ok.packed_le {k : Kn} (h : k.Ok) {cs : List Int} (hg : k.good 0 cs = true) (hl : cs.length ≤ 3100) : (k.packed cs).size ≤ 4000 := by
  have := h.bl_ge hg
  rw [Kn.packed_size]; omega
/-- codes with an end code are unpacked from the stream to which they are packed -/
theorem Kn.Ok.rdAll_packed {k : Kn} (h : k.Ok) {cs : List Int} (hg : k.good 0 cs = true) (hl : cs.length ≤ 3100) (he : cs.getLast? = some (k.c + 1)) : k.rdAll (k.packed cs) = (cs, 0, (k.bl cs).length) := by
  have hb := h.bl_ge hg
  have hB := Kn.bitsOf_packed k cs
  have := h.rd_back (B := k.bitsOf (k.packed cs)) (a := 0) (n := 0) (sz := 0) (f := 8 * (k.packed cs).size + 1) (rest := List.replicate (M.padN (k.bl cs).length) false) hg he (by rw [hB]; rfl) (Nat.zero_le _) (by rw [Kn.packed_size]; omega) (by omega) (by omega)
  rw [Nat.zero_add] at this
  exact this
theorem Kn.Ok.uc_packed {k : Kn} (h : k.Ok) {cs : List Int} (hg : k.good 0 cs = true) (hl : cs.length ≤ 3100) (he : cs.getLast? = some (k.c + 1)) : k.uc (k.packed cs) = cs ∧ k.ue (k.packed cs) = 0 ∧ k.uu (k.packed cs) = (k.packed cs).size := by
  have h1 := h.rdAll_packed hg hl he
  refine ⟨by rw [Kn.uc, h1], by rw [Kn.ue, h1], by rw [Kn.uu, h1, Kn.packed_size]⟩
/-- the codes of a stream are packed to its first bits -/
theorem Kn.uc_bits (k : Kn) (s : ByteArray) : k.bl (k.uc s) = (k.bitsOf s).take (k.bl (k.uc s)).length ∧ (k.bl (k.uc s)).length ≤ 8 * s.size := by
  have := Kn.rd_bits (B := k.bitsOf s) (f := 8 * s.size + 1) (k := k) (a := 0) (n := 0) (sz := 0) (Nat.zero_le _)
  rw [List.drop_zero, Kn.bitsOf_len, Nat.zero_add] at this
  exact this
theorem Kn.Ok.ue_zero_last {k : Kn} (h : k.Ok) {B : List Bool} {f a n sz : Nat} (he : (Kn.rd B f k a n sz).2.1 = 0) : (Kn.rd B f k a n sz).1.getLast? = some (k.c + 1) := by
  induction f generalizing k a n sz with
  | zero => simp [Kn.rd] at he
  | succ f ih =>
    rw [Kn.rd] at he ⊢
    generalize k.codeAt B a = code at he ⊢
    split
    · rename_i h0
      rw [if_pos h0] at he
      split
      · rename_i h1; simp [h1]
      · rename_i h1
        rw [if_neg h1] at he
        split
        · rename_i h2
          rw [if_pos h2] at he
          split
          · rename_i h3; rw [if_pos h3] at he; simp at he
          · rename_i h3
            rw [if_neg h3] at he
            split
            · rename_i h4; rw [if_pos h4] at he; simp at he
            · rename_i h4
              rw [if_neg h4] at he
              simp only at he ⊢
              have := ih (h.step h2) he
              rw [Kn.step_c] at this
              have hne : (Kn.rd B f (k.step code) (a + k.width.toNat) (n + 1) (sz + (k.part code).length)).1 ≠ [] := by
                intro e; rw [e] at this; simp at this
              rw [List.getLast?_cons_of_ne_nil hne]
              exact this
        · rename_i h2; rw [if_neg h2] at he; simp at he
    · rename_i h0; rw [if_neg h0] at he; simp at he
theorem Kn.Ok.uc_last {k : Kn} (h : k.Ok) {s : ByteArray} (he : k.ue s = 0) : (k.uc s).getLast? = some (k.c + 1) := h.ue_zero_last he
/-- behind the bytes that are used anything may stand -/
theorem Kn.Ok.behind {k : Kn} (h : k.Ok) {s t : ByteArray} (he : k.ue s = 0) (ht : ∃ tail : List UInt8, t.data.toList = s.data.toList.take (k.uu s) ++ tail) : k.uc t = k.uc s ∧ k.ue t = 0 ∧ k.uu t = k.uu s := by
  obtain ⟨tail, ht⟩ := ht
  have hu := Kn.uu_bd h s
  have hrd : Kn.rd (k.bitsOf s) (8 * s.size + 1) k 0 0 0 = (k.uc s, 0, (k.rdAll s).2.2) := Prod.ext rfl (Prod.ext he rfl)
  have hx : (k.rdAll s).2.2 ≤ 8 * k.uu s := by unfold Kn.uu; omega
  have hlt : t.size = k.uu s + tail.length := by
    have := congrArg List.length ht
    rw [len_toList, List.length_append, take_len (by rw [len_toList]; exact hu)] at this
    exact this
  have hpre : (k.bitsOf t).take (8 * k.uu s) = (k.bitsOf s).take (8 * k.uu s) := by
    have hs : s.data.toList = s.data.toList.take (k.uu s) ++ s.data.toList.drop (k.uu s) := (List.take_append_drop _ _).symm
    have hl : (M.unpack (k.o == 1) (s.data.toList.take (k.uu s))).length = 8 * k.uu s := by rw [M.unpack_length, take_len (by rw [len_toList]; exact hu)]
    have e : ∀ r : List UInt8, (M.unpack (k.o == 1) (s.data.toList.take (k.uu s) ++ r)).take (8 * k.uu s) = M.unpack (k.o == 1) (s.data.toList.take (k.uu s)) := by
      intro r
      have : M.unpack (k.o == 1) (s.data.toList.take (k.uu s) ++ r) = M.unpack (k.o == 1) (s.data.toList.take (k.uu s)) ++ M.unpack (k.o == 1) r := by simp [M.unpack]
      rw [this, List.take_append_of_le_length (by omega), List.take_of_length_le (by omega)]
    rw [Kn.bitsOf_eq, Kn.bitsOf_eq, ht, e]
    conv => rhs; rw [hs]
    rw [e]
  have hcs : 2 * (k.uc s).length ≤ (k.rdAll s).2.2 := by
    have h1 := h.bl_ge (Kn.uc_good h s)
    have h2 := Kn.rd_len0 hrd
    omega
  have := Kn.rd_agree hrd (B' := k.bitsOf t) (by
    have e : ∀ X : List Bool, X.take (k.rdAll s).2.2 = (X.take (8 * k.uu s)).take (k.rdAll s).2.2 := fun X => by rw [List.take_take, Nat.min_eq_left hx]
    rw [e, e (k.bitsOf s), hpre]) (by rw [Kn.bitsOf_len]; omega) (8 * t.size + 1) (by omega)
  have h2 : k.rdAll t = (k.uc s, 0, (k.rdAll s).2.2) := this
  exact ⟨by rw [Kn.uc, h2], by rw [Kn.ue, h2], by rw [Kn.uu, h2]; rfl⟩
/-- without the last byte that is used the stream ends too early -/
theorem Kn.Ok.short {k : Kn} (h : k.Ok) {s t : ByteArray} (he : k.ue s = 0) (ht : t.data.toList = s.data.toList.take (k.uu s - 1)) : 1 ≤ k.uu s ∧ (∃ j, j < (k.uc s).length ∧ k.uc t = (k.uc s).take j) ∧ k.ue t = 1 ∧ k.uu t = k.uu s - 1 := by
  have hu := Kn.uu_bd h s
  have hrd : Kn.rd (k.bitsOf s) (8 * s.size + 1) k 0 0 0 = (k.uc s, 0, (k.rdAll s).2.2) := Prod.ext rfl (Prod.ext he rfl)
  have h1 := h.bl_ge (Kn.uc_good h s)
  have h2 := Kn.rd_len0 hrd
  have h3 : 0 < (k.uc s).length := by
    have := h.uc_last he
    cases hc : k.uc s with
    | nil => rw [hc] at this; simp at this
    | cons a t => simp
  have hx : k.uu s = ((k.rdAll s).2.2 + 7) / 8 := rfl
  have hlt : t.size = k.uu s - 1 := by
    have := congrArg List.length ht
    rw [len_toList, take_len (by rw [len_toList]; omega)] at this
    exact this
  have hb : k.bitsOf t = (k.bitsOf s).take (8 * (k.uu s - 1)) := by
    have hs : s.data.toList = s.data.toList.take (k.uu s - 1) ++ s.data.toList.drop (k.uu s - 1) := (List.take_append_drop _ _).symm
    have hl : (M.unpack (k.o == 1) (s.data.toList.take (k.uu s - 1))).length = 8 * (k.uu s - 1) := by rw [M.unpack_length, take_len (by rw [len_toList]; omega)]
    have e : ∀ r : List UInt8, (M.unpack (k.o == 1) (s.data.toList.take (k.uu s - 1) ++ r)).take (8 * (k.uu s - 1)) = M.unpack (k.o == 1) (s.data.toList.take (k.uu s - 1)) := by
      intro r
      have : M.unpack (k.o == 1) (s.data.toList.take (k.uu s - 1) ++ r) = M.unpack (k.o == 1) (s.data.toList.take (k.uu s - 1)) ++ M.unpack (k.o == 1) r := by simp [M.unpack]
      rw [this, List.take_append_of_le_length (by omega), List.take_of_length_le (by omega)]
    rw [Kn.bitsOf_eq, Kn.bitsOf_eq, ht]
    conv => rhs; rw [hs]
    rw [e]
  obtain ⟨j, hj, hr⟩ := h.rd_cut hrd (8 * (k.uu s - 1)) (by omega) (by rw [Kn.bitsOf_len]; omega) (Nat.zero_le _) (8 * t.size + 1) (by omega)
  rw [← hb] at hr
  have h4 : k.rdAll t = ((k.uc s).take j, 1, 8 * (k.uu s - 1)) := hr
  exact ⟨by omega, ⟨j, hj, by rw [Kn.uc, h4]⟩, by rw [Kn.ue, h4], by rw [Kn.uu, h4]; show (8 * (k.uu s - 1) + 7) / 8 = _; omega⟩
/-- the other order has the same codes -/
theorem Kn.turn_packed_uc {k : Kn} (h : k.Ok) {s : ByteArray} (he : k.ue s = 0) : k.turn.uc (k.turn.packed (k.uc s)) = k.uc s ∧ k.turn.ue (k.turn.packed (k.uc s)) = 0 ∧ k.turn.uu (k.turn.packed (k.uc s)) = (k.turn.packed (k.uc s)).size := by
  have e : k.turn.c = k.c := rfl
  exact h.turn.uc_packed (by rw [Kn.turn_good]; exact Kn.uc_good h s) (Kn.uc_len h s) (by rw [e]; exact h.uc_last he)
end Go.Proofs.Ytfklkepodpcdgaa
