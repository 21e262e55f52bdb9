/- Plain mathematics: trails, that is, codes that have been followed, with their widths and data. No condition. -/
import Derived.Test.YtoiifopjipfjhaaRd
namespace Go.Proofs.Ytoiifopjipfjhaa

structure Tr where
  k : Kn
  n : Nat
  sz : Nat
  cs : List Int
  ws : List Int
  ds : List UInt8
namespace Tr
variable (T : Tr)
/-- behind a code that is not the end code -/
def next (code : Int) : Tr := { k := T.k.step code, n := T.n + 1, sz := T.sz + (T.k.part code).length, cs := T.cs ++ [code], ws := T.ws ++ [T.k.width], ds := T.ds ++ T.k.part code }
/-- behind the end code -/
def last (code : Int) : Tr := { T with n := T.n + 1, cs := T.cs ++ [code], ws := T.ws ++ [T.k.width] }
/-- how a code ends -/
def fin (code : Int) : Int := if code = T.k.c + 1 then 0 else if code = T.k.c ∨ T.k.Fol code then (if 2000 < T.sz + (T.k.part code).length then 3 else 1) else 2
def to (code : Int) : Tr := if T.fin code = 0 then T.last code else if T.fin code = 1 then T.next code else T
def start (k : Kn) : Tr := ⟨k, 0, 0, [], [], []⟩
structure Ok : Prop where
  kn : T.k.Ok
  size : T.sz ≤ 2000
  lens : T.ws.length = T.cs.length
  short : T.cs.length ≤ 3100
  count : T.n ≤ 1000000
  data : T.ds.length ≤ 2000
end Tr

theorem Kn.not_fol_end (k : Kn) (h : k.Ok) : ¬ k.Fol (k.c + 1) := by rw [h.fol_iff]; omega
theorem Kn.not_fol_clear (k : Kn) (h : k.Ok) : ¬ k.Fol k.c := by rw [h.fol_iff]; omega
theorem Tr.fin_end {T : Tr} : T.fin (T.k.c + 1) = 0 := by simp [Tr.fin]
theorem Tr.fin_wrong {T : Tr} (h : T.k.Ok) {code : Int} (hc : ¬ (0 ≤ code ∧ code ≤ T.k.great)) : T.fin code = 2 := by
  have hb := h.great_bd
  have hcb := h.cbd
  have hf : ¬ T.k.Fol code := by rw [h.fol_iff]; omega
  unfold Tr.fin
  rw [if_neg (by omega), if_neg (by rintro (h1 | h1); omega; exact hf h1)]
theorem Tr.fin_clear {T : Tr} (h : T.Ok) : T.fin T.k.c = 1 := by
  have := h.size
  unfold Tr.fin
  rw [if_neg (by omega), if_pos (.inl rfl), if_neg (by rw [Kn.part_none _ _ (.inl rfl)]; simpa using this)]
theorem Tr.fin_code {T : Tr} (h : T.k.Ok) {code : Int} (hf : T.k.Fol code) : T.fin code = if 2000 < T.sz + (T.k.any code).length then 3 else 1 := by
  have h1 := (h.fol_iff code).1 hf
  unfold Tr.fin
  rw [if_neg h1.2.2.2, if_pos (.inr hf), Kn.part_code _ _ h1.2.2.1 h1.2.2.2]
theorem Tr.fin_range (T : Tr) (code : Int) : T.fin code = 0 ∨ T.fin code = 1 ∨ T.fin code = 2 ∨ T.fin code = 3 := by
  unfold Tr.fin
  split
  · simp
  · split
    · split <;> simp
    · simp
theorem Tr.fin_one {T : Tr} {code : Int} (h : T.fin code = 1) : code ≠ T.k.c + 1 ∧ (code = T.k.c ∨ T.k.Fol code) ∧ T.sz + (T.k.part code).length ≤ 2000 := by
  unfold Tr.fin at h
  split at h
  · omega
  · split at h
    · split at h
      · omega
      · exact ⟨by assumption, by assumption, by omega⟩
    · omega
theorem Tr.fin_zero {T : Tr} {code : Int} (h : T.fin code = 0) : code = T.k.c + 1 := by
  unfold Tr.fin at h
  split at h
  · assumption
  · split at h
    · split at h <;> omega
    · omega
theorem Tr.to_one {T : Tr} {code : Int} (h : T.fin code = 1) : T.to code = T.next code := by unfold Tr.to; rw [h]; simp
theorem Tr.to_zero {T : Tr} {code : Int} (h : T.fin code = 0) : T.to code = T.last code := by unfold Tr.to; rw [h]; simp
theorem Tr.to_no {T : Tr} {code : Int} (h : T.fin code = 2 ∨ T.fin code = 3) : T.to code = T := by unfold Tr.to; rcases h with h | h <;> rw [h] <;> simp
theorem Tr.Ok.next {T : Tr} (h : T.Ok) {code : Int} (hf : T.fin code = 1) (hn : T.n + 1 ≤ 1000000) (hl : T.cs.length + 1 ≤ 3100) (hd : T.ds.length + (T.k.part code).length ≤ 2000) : (T.next code).Ok := by
  have h1 := Tr.fin_one hf
  exact ⟨h.kn.step h1.2.1, h1.2.2, by simp [Tr.next, h.lens], by simpa [Tr.next] using hl, hn, by simpa [Tr.next] using hd⟩
theorem Tr.Ok.last {T : Tr} (h : T.Ok) {code : Int} (hn : T.n + 1 ≤ 1000000) (hl : T.cs.length + 1 ≤ 3100) : (T.last code).Ok :=
  ⟨h.kn, h.size, by simp [Tr.last, h.lens], by simpa [Tr.last] using hl, hn, h.data⟩
theorem Tr.start_ok {k : Kn} (h : k.Ok) : (Tr.start k).Ok := ⟨h, by simp [Tr.start], rfl, by simp [Tr.start], by simp [Tr.start], by simp [Tr.start]⟩

/-- what a trail and the codes that are left make together -/
structure Tr.Goes (k : Kn) (codes : List Int) (T : Tr) (rest : List Int) : Prop where
  good : T.k.good T.sz rest = k.good 0 codes
  cs : T.cs ++ rest = codes
  ws : T.ws ++ T.k.widths rest = k.widths codes
  ds : T.ds ++ T.k.dat rest = k.dat codes
  n : T.n = T.cs.length
  sz : T.sz = T.ds.length
theorem Tr.goes_start (k : Kn) (codes : List Int) : Tr.Goes k codes (Tr.start k) codes := ⟨rfl, rfl, rfl, rfl, rfl, rfl⟩
theorem Tr.Goes.next {k : Kn} {codes : List Int} {T : Tr} {code : Int} {t : List Int} (h : Tr.Goes k codes T (code :: t)) (hf : T.fin code = 1) : Tr.Goes k codes (T.next code) t := by
  have h1 := Tr.fin_one hf
  refine ⟨?_, ?_, ?_, ?_, ?_, ?_⟩
  · rw [← h.good]
    by_cases hc : code = T.k.c
    · subst hc
      rw [Kn.good_clear]
      simp [Tr.next, Kn.part]
    · rw [Kn.good_code _ _ _ _ hc h1.1]
      have hp := Kn.part_code _ _ hc h1.1
      have hfl : T.k.Fol code := h1.2.1.resolve_left hc
      have h2 := h1.2.2
      rw [hp] at h2
      simp [Tr.next, hp, hfl, h2]
  · rw [← h.cs]; simp [Tr.next]
  · rw [← h.ws]; simp [Tr.next, Kn.widths]
  · rw [← h.ds]; simp [Tr.next, Kn.dat]
  · simp [Tr.next, h.n]
  · simp [Tr.next, h.sz]
theorem Tr.Goes.last {k : Kn} {codes : List Int} {T : Tr} (h : Tr.Goes k codes T [T.k.c + 1]) : Tr.Goes k codes (T.last (T.k.c + 1)) [] := by
  refine ⟨?_, ?_, ?_, ?_, ?_, ?_⟩
  · rw [← h.good, Kn.good_end]; simp [Kn.good]
  · rw [← h.cs]; simp [Tr.last]
  · rw [← h.ws]; simp [Tr.last, Kn.widths]
  · rw [← h.ds]; simp [Tr.last, Kn.dat, Kn.part]
  · simp [Tr.last, h.n]
  · simp [Tr.last, h.sz]
theorem Tr.Goes.bad {k : Kn} {codes : List Int} {T : Tr} {code : Int} {t : List Int} (h : Tr.Goes k codes T (code :: t)) (hf : T.fin code ≠ 1) (hl : ¬ (T.fin code = 0 ∧ t = [])) (hs : T.sz ≤ 2000) : k.good 0 codes = false := by
  rw [← h.good]
  by_cases he : code = T.k.c + 1
  · subst he
    rw [Kn.good_end]
    have := Tr.fin_end (T := T)
    cases t with
    | nil => exact absurd ⟨this, rfl⟩ hl
    | cons a b => rfl
  · by_cases hc : code = T.k.c
    · subst hc
      exfalso
      unfold Tr.fin at hf
      rw [if_neg he, if_pos (.inl rfl)] at hf
      split at hf
      · rename_i h2
        rw [Kn.part_none _ _ (.inl rfl)] at h2
        simp at h2
        omega
      · exact hf rfl
    · rw [Kn.good_code _ _ _ _ hc he]
      unfold Tr.fin at hf
      rw [if_neg he] at hf
      by_cases hfl : T.k.Fol code
      · rw [if_pos (.inr hfl), Kn.part_code _ _ hc he] at hf
        split at hf
        · rename_i h2
          have : ¬ T.sz + (T.k.any code).length ≤ 2000 := by omega
          simp [this]
        · exact absurd rfl hf
      · simp [hfl]
end Go.Proofs.Ytoiifopjipfjhaa
