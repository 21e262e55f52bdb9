/- Plain mathematics: codes that are written and read back. No condition. -/
import Derived.Test.YtfklkepodpcdgaaBb
import Derived.Test.YtfklkepodpcdgaaFm
namespace Go.Proofs.Ytfklkepodpcdgaa
set_option linter.unusedVariables false

namespace Kn
/-- the bits of a code -/
def cb (k : Kn) (code : Int) : List Bool := M.dir (k.o == 1) (M.bitsOf k.width.toNat code.toNat)
def bl : Kn → List Int → List Bool
  | _, [] => []
  | k, code :: t => k.cb code ++ bl (k.step code) t
end Kn
theorem Kn.cb_len (k : Kn) (code : Int) : (k.cb code).length = k.width.toNat := by simp [Kn.cb, M.dir_length, M.bitsOf_length]
theorem Kn.bits_bl (k : Kn) (cs : List Int) : k.bits cs = M.asc (k.bl cs) := by
  induction cs generalizing k with
  | nil => rfl
  | cons code t ih =>
    rw [Kn.bits, Kn.bl, ih]
    simp [M.asc, M.codeBits, Kn.cb]
theorem Kn.bl_len (k : Kn) (cs : List Int) : (k.bl cs).length = ((k.widths cs).map Int.toNat).sum := by
  induction cs generalizing k with
  | nil => rfl
  | cons code t ih => simp [Kn.bl, Kn.widths, ih, Kn.cb_len]
theorem Kn.codeAt_cb {k : Kn} (h : k.Ok) {code : Int} (h0 : 0 ≤ code) (h1 : code ≤ k.great) {B : List Bool} {a : Nat} {rest : List Bool} (hB : B.drop a = k.cb code ++ rest) : k.codeAt B a = code := by
  have hf := h.code_fits h0 h1
  rw [pow2_nat] at hf
  have e : (k.cb code ++ rest).take k.width.toNat = k.cb code := by
    rw [List.take_append_of_le_length (by rw [Kn.cb_len]; omega), List.take_of_length_le (by rw [Kn.cb_len]; omega)]
  rw [Kn.codeAt, hB, e, Kn.cb, M.dir_dir, M.num_bitsOf _ _ (by omega)]
  omega
theorem Kn.cb_codeAt {k : Kn} {B : List Bool} {a : Nat} (h : a + k.width.toNat ≤ B.length) : k.cb (k.codeAt B a) = (B.drop a).take k.width.toNat := by
  obtain ⟨X, hX⟩ : ∃ X, X = M.dir (k.o == 1) ((B.drop a).take k.width.toNat) := ⟨_, rfl⟩
  have hl : X.length = k.width.toNat := by rw [hX, M.dir_length]; simp; omega
  rw [Kn.cb, Kn.codeAt, Int.toNat_natCast, ← hX, ← hl, M.bitsOf_num, hX, M.dir_dir]
  rw [← hX, hl]

/-- a stream whose codes end with the end code is read to it -/
theorem Kn.Ok.rd_back {k : Kn} (h : k.Ok) {B : List Bool} {cs : List Int} {a n sz f : Nat} {rest : List Bool} (hg : k.good sz cs = true) (he : cs.getLast? = some (k.c + 1)) (hB : B.drop a = k.bl cs ++ rest) (ha : a ≤ B.length) (hf : cs.length ≤ f) (hn : n + cs.length ≤ 3100) (hs : sz ≤ 2000) : Kn.rd B f k a n sz = (cs, 0, a + (k.bl cs).length) := by
  induction cs generalizing k a n sz f with
  | nil => simp at he
  | cons code t ih =>
    cases f with
    | zero => simp at hf
    | succ f =>
      have hc0 := h.good_code0 hg
      have hw := h.width_bd
      rw [Kn.bl, List.append_assoc] at hB
      have hcode := Kn.codeAt_cb h hc0.1 hc0.2 hB
      have hfit : a + k.width.toNat ≤ B.length := by
        have := congrArg List.length hB
        simp [Kn.cb_len] at this
        omega
      rw [Kn.rd, if_pos hfit, hcode]
      by_cases h1 : code = k.c + 1
      · subst h1
        rw [Kn.good_end] at hg
        have : t = [] := by simpa using hg
        subst this
        simp [Kn.bl, Kn.cb_len]
      · obtain ⟨hs1, _, _, hs4⟩ := h.good_step hg h1
        have hfol : code = k.c ∨ k.Fol code := by
          by_cases h2 : code = k.c
          · exact .inl h2
          · rw [Kn.good_code _ _ _ _ h2 h1] at hg
            simp only [Bool.and_eq_true, decide_eq_true_eq] at hg
            exact .inr hg.1
        have hne : t ≠ [] := by
          rintro rfl
          simp at he
          exact h1 he
        have hsz : ¬ 2000 < sz + (k.part code).length := by
          by_cases h2 : code = k.c
          · rw [Kn.part_none _ _ (.inl h2)]; simpa using hs
          · rw [Kn.good_code _ _ _ _ h2 h1] at hg
            simp only [Bool.and_eq_true, decide_eq_true_eq] at hg
            rw [Kn.part_code _ _ h2 h1]; omega
        have htl : 0 < t.length := List.length_pos_iff.2 hne
        simp only [List.length_cons] at hf hn
        rw [if_neg h1, if_pos hfol, if_neg hsz, if_neg (by omega)]
        have he2 : t.getLast? = some ((k.step code).c + 1) := by
          rw [Kn.step_c]
          rw [List.getLast?_cons_of_ne_nil hne] at he
          exact he
        have hB2 : B.drop (a + k.width.toNat) = (k.step code).bl t ++ rest := by
          rw [← List.drop_drop, hB, List.drop_append_of_le_length (by rw [Kn.cb_len]; omega), List.drop_of_length_le (by rw [Kn.cb_len]; omega), List.nil_append]
        have := ih hs1 hs4 he2 hB2 hfit (n := n + 1) (f := f) (by omega) (by omega) (by omega)
        rw [this]
        simp [Kn.bl, Kn.cb_len]; omega
/-- a whole reading does not look behind its end -/
theorem Kn.rd_agree {B B' : List Bool} {f : Nat} {k : Kn} {a n sz u : Nat} {cs : List Int} (h : Kn.rd B f k a n sz = (cs, 0, u)) (hB : B'.take u = B.take u) (hl : u ≤ B'.length) (f' : Nat) (hf : cs.length ≤ f') : Kn.rd B' f' k a n sz = (cs, 0, u) := by
  have hcode : ∀ (k : Kn) (a : Nat), a + k.width.toNat ≤ u → k.codeAt B' a = k.codeAt B a := by
    intro k a hx
    have e : ∀ X : List Bool, (X.drop a).take k.width.toNat = ((X.take u).drop a).take k.width.toNat := by
      intro X
      rw [List.drop_take, List.take_take, Nat.min_eq_left (by omega)]
    rw [Kn.codeAt, Kn.codeAt, e B', e B, hB]
  have hmono : ∀ (f : Nat) (k : Kn) (a n sz u : Nat) (cs : List Int), Kn.rd B f k a n sz = (cs, 0, u) → a ≤ u := by
    intro f
    induction f with
    | zero => intro k a n sz u cs h; simp [Kn.rd] at h
    | succ f ih =>
      intro k a n sz u cs h
      rw [Kn.rd] at h
      generalize k.codeAt B a = code at h
      split at h
      · split at h
        · simp at h; omega
        · split at h
          · split at h
            · simp at h
            · split at h
              · simp at h
              · have := ih (k.step code) (a + k.width.toNat) (n + 1) (sz + (k.part code).length) u (Kn.rd B f (k.step code) (a + k.width.toNat) (n + 1) (sz + (k.part code).length)).1 (by
                  simp only [Prod.mk.injEq] at h
                  exact Prod.ext rfl h.2)
                omega
          · simp at h
      · simp at h
  induction f generalizing k a n sz cs f' with
  | zero => simp [Kn.rd] at h
  | succ f ih =>
    have h0 := h
    rw [Kn.rd] at h
    split at h
    · rename_i hfit
      split at h
      · rename_i h1
        simp only [Prod.mk.injEq] at h
        obtain ⟨h2, _, h3⟩ := h
        subst h2
        cases f' with
        | zero => simp at hf
        | succ f' =>
          have hc := hcode k a (by omega)
          rw [Kn.rd, if_pos (by omega), hc, if_pos h1]
          simp [h3]
      · rename_i h1
        split at h
        · rename_i h2
          split at h
          · simp at h
          · rename_i h3
            split at h
            · simp at h
            · rename_i h4
              simp only [Prod.mk.injEq] at h
              obtain ⟨h5, h6⟩ := h
              have hrd : Kn.rd B f (k.step (k.codeAt B a)) (a + k.width.toNat) (n + 1) (sz + (k.part (k.codeAt B a)).length) = ((Kn.rd B f (k.step (k.codeAt B a)) (a + k.width.toNat) (n + 1) (sz + (k.part (k.codeAt B a)).length)).1, 0, u) := Prod.ext rfl h6
              have hle := hmono _ _ _ _ _ _ _ hrd
              subst h5
              cases f' with
              | zero => simp at hf
              | succ f' =>
                have hc := hcode k a hle
                simp only [List.length_cons] at hf
                have := ih hrd f' (by omega)
                rw [Kn.rd, if_pos (by omega), hc, if_neg h1, if_pos h2, if_neg h3, if_neg h4, this]
        · simp at h
    · simp at h
/-- how many bits a whole reading takes -/
theorem Kn.rd_len0 {B : List Bool} {f : Nat} {k : Kn} {a n sz u : Nat} {cs : List Int} (h : Kn.rd B f k a n sz = (cs, 0, u)) : u = a + (k.bl cs).length := by
  induction f generalizing k a n sz cs with
  | zero => simp [Kn.rd] at h
  | succ f ih =>
    rw [Kn.rd] at h
    split at h
    · split at h
      · simp only [Prod.mk.injEq] at h
        obtain ⟨rfl, _, rfl⟩ := h
        simp [Kn.bl, Kn.cb_len]
      · split at h
        · split at h
          · simp at h
          · split at h
            · simp at h
            · simp only [Prod.mk.injEq] at h
              obtain ⟨h5, h6⟩ := h
              have hrd : Kn.rd B f (k.step (k.codeAt B a)) (a + k.width.toNat) (n + 1) (sz + (k.part (k.codeAt B a)).length) = ((Kn.rd B f (k.step (k.codeAt B a)) (a + k.width.toNat) (n + 1) (sz + (k.part (k.codeAt B a)).length)).1, 0, u) := Prod.ext rfl h6
              have := ih hrd
              rw [← h5, Kn.bl, List.length_append, Kn.cb_len]
              omega
        · simp at h
    · simp at h
/-- what is cut ahead of its end ends too early -/
theorem Kn.Ok.rd_cut {B : List Bool} {f : Nat} {k : Kn} (hk : k.Ok) {a n sz u : Nat} {cs : List Int} (h : Kn.rd B f k a n sz = (cs, 0, u)) (m : Nat) (hm : m < u) (hu : m ≤ B.length) (ha : a ≤ m) (f' : Nat) (hf : m < a + 2 * f') : ∃ j, j < cs.length ∧ Kn.rd (B.take m) f' k a n sz = (cs.take j, 1, m) := by
  have hlen : (B.take m).length = m := by simp; omega
  induction f generalizing k a n sz cs f' with
  | zero => simp [Kn.rd] at h
  | succ f ih =>
    have hw := hk.width_bd
    rw [Kn.rd] at h
    have hcpos : 0 < cs.length := by
      cases cs with
      | nil =>
        split at h
        · split at h
          · simp at h
          · split at h
            · split at h
              · simp at h
              · split at h <;> simp at h
            · simp at h
        · simp at h
      | cons a t => simp
    cases f' with
    | zero => omega
    | succ f' =>
      by_cases hfit2 : a + k.width.toNat ≤ m
      · have hc : k.codeAt (B.take m) a = k.codeAt B a := by
          rw [Kn.codeAt, Kn.codeAt, List.drop_take, List.take_take, Nat.min_eq_left (by omega)]
        rw [if_pos (by omega)] at h
        split at h
        · rename_i h1
          simp only [Prod.mk.injEq] at h
          omega
        · rename_i h1
          split at h
          · rename_i h2
            split at h
            · simp at h
            · rename_i h3
              split at h
              · simp at h
              · rename_i h4
                simp only [Prod.mk.injEq] at h
                obtain ⟨h5, h6⟩ := h
                have hrd : Kn.rd B f (k.step (k.codeAt B a)) (a + k.width.toNat) (n + 1) (sz + (k.part (k.codeAt B a)).length) = ((Kn.rd B f (k.step (k.codeAt B a)) (a + k.width.toNat) (n + 1) (sz + (k.part (k.codeAt B a)).length)).1, 0, u) := Prod.ext rfl h6
                subst h5
                obtain ⟨j, hj, he⟩ := ih (hk.step h2) hrd hfit2 f' (by omega)
                refine ⟨j + 1, by simpa using hj, ?_⟩
                rw [Kn.rd, if_pos (by omega), hc, if_neg h1, if_pos h2, if_neg h3, if_neg h4, he]
                simp
          · simp at h
      · refine ⟨0, hcpos, ?_⟩
        rw [Kn.rd, if_neg (by omega), hlen]
        simp
/-- the codes that are read are written as the bits from which they were read -/
theorem Kn.rd_bits {B : List Bool} {f : Nat} {k : Kn} {a n sz : Nat} (ha : a ≤ B.length) : k.bl (Kn.rd B f k a n sz).1 = (B.drop a).take (k.bl (Kn.rd B f k a n sz).1).length ∧ a + (k.bl (Kn.rd B f k a n sz).1).length ≤ B.length := by
  induction f generalizing k a n sz with
  | zero => simp [Kn.rd, Kn.bl]; omega
  | succ f ih =>
    rw [Kn.rd]
    split
    · rename_i hfit
      have hcb := Kn.cb_codeAt hfit
      have one : k.bl [k.codeAt B a] = (B.drop a).take (k.bl [k.codeAt B a]).length ∧ a + (k.bl [k.codeAt B a]).length ≤ B.length := by
        simp only [Kn.bl, List.append_nil, Kn.cb_len]
        exact ⟨hcb, hfit⟩
      split
      · exact one
      · split
        · split
          · simp [Kn.bl]; omega
          · split
            · exact one
            · have := ih (k := k.step (k.codeAt B a)) (a := a + k.width.toNat) (n := n + 1) (sz := sz + (k.part (k.codeAt B a)).length) hfit
              simp only [Kn.bl]
              rw [List.length_append, Kn.cb_len]
              refine ⟨?_, by omega⟩
              rw [List.take_add, List.drop_drop, ← this.1, hcb]
        · simp [Kn.bl]; omega
    · simp [Kn.bl]; omega
/-- as many codes as bits allow -/
theorem Kn.rd_few {B : List Bool} {f : Nat} {k : Kn} (h : k.Ok) {a n sz : Nat} (ha : a ≤ B.length) : a + 2 * (Kn.rd B f k a n sz).1.length ≤ B.length := by
  induction f generalizing k a n sz with
  | zero => simp [Kn.rd]; omega
  | succ f ih =>
    have hw := h.width_bd
    rw [Kn.rd]
    generalize k.codeAt B a = code
    split
    · split
      · simp; omega
      · split
        · rename_i h2
          split
          · simp; omega
          · split
            · simp; omega
            · have := ih (h.step h2) (a := a + k.width.toNat) (n := n + 1) (sz := sz + (k.part code).length) (by assumption)
              simp only [List.length_cons]
              omega
        · simp; omega
    · simp; omega

/-! ### The other order -/
def Kn.turn (k : Kn) : Kn := { k with o := 1 - k.o }
theorem Kn.turn_step (k : Kn) (code : Int) : (k.step code).turn = k.turn.step code := by
  unfold Kn.step
  have e : k.turn.c = k.c := rfl
  rw [e]
  split <;> rfl
theorem Kn.turn_good (k : Kn) (n : Nat) (cs : List Int) : k.turn.good n cs = k.good n cs := by
  induction cs generalizing k n with
  | nil => rfl
  | cons code t ih =>
    have e : k.turn.c = k.c := rfl
    by_cases h1 : code = k.c + 1
    · subst h1
      rw [Kn.good_end, ← e, Kn.good_end]
    · by_cases h2 : code = k.c
      · subst h2
        rw [Kn.good_clear, ← e, Kn.good_clear, ← Kn.turn_step, ih, e]
      · rw [Kn.good_code _ _ _ _ h2 h1, Kn.good_code _ _ _ _ (by rw [e]; exact h2) (by rw [e]; exact h1), ← Kn.turn_step, ih]
        rfl
theorem Kn.turn_widths (k : Kn) (cs : List Int) : k.turn.widths cs = k.widths cs := by
  induction cs generalizing k with
  | nil => rfl
  | cons code t ih => rw [Kn.widths, Kn.widths, ← Kn.turn_step, ih]; rfl
theorem Kn.turn_dat (k : Kn) (cs : List Int) : k.turn.dat cs = k.dat cs := by
  induction cs generalizing k with
  | nil => rfl
  | cons code t ih => rw [Kn.dat, Kn.dat, ← Kn.turn_step, ih]; rfl
theorem Kn.Ok.turn {k : Kn} (h : k.Ok) : k.turn.Ok := by
  obtain ⟨h1, h2, h3⟩ := setOk_iff.1 h.set
  exact ⟨setOk_iff.2 ⟨by show 1 - k.o = 0 ∨ 1 - k.o = 1; omega, h2, h3⟩, h.room, h.pairs, h.base0, h.base1, h.lastOk⟩
theorem Kn.turn_turn (k : Kn) : k.turn.turn = k := by
  unfold Kn.turn
  have : 1 - (1 - k.o) = k.o := by omega
  simp [this]
end Go.Proofs.Ytfklkepodpcdgaa
