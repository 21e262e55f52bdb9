/- Where the next block begins, and NextBlock in the model. No condition but that the string is not too long. -/
import Derived.Test.YtepbjmpbcobfpaaDoorYb
import Derived.BigQuiet
namespace Go.Proofs.YtepbjmpbcobfpaaDoor
open Go.ChangeShapes Go.WideShapes Go.ChangeAt Go.RowKit Go.Joins
set_option linter.unusedVariables false
set_option linter.unusedSimpArgs false

/-- r is where the next block from an index on begins -/
def NextIs (L : List UInt8) (i : Nat) (r : Option Nat) : Prop :=
  (∀ A, i ≤ A → A < L.length → (∀ s, r = some s → A < s) → parse (L.drop A) = none) ∧ ∀ s, r = some s → i ≤ s ∧ s < L.length ∧ parse (L.drop s) ≠ none
theorem next_ex (L : List UInt8) : ∀ (m i : Nat), L.length - i ≤ m → ∃ r, NextIs L i r
  | 0, i, h => ⟨none, fun A h1 h2 _ => by omega, fun s hs => by simp at hs⟩
  | m + 1, i, h => by
    by_cases hi : i < L.length
    · cases hp : parse (L.drop i) with
      | none =>
        obtain ⟨r, h1, h2⟩ := next_ex L m (i + 1) (by omega)
        refine ⟨r, fun A a1 a2 a3 => ?_, fun s hs => by have := h2 s hs; exact ⟨by omega, this.2⟩⟩
        by_cases e : A = i
        · subst e; exact hp
        · exact h1 A (by omega) a2 a3
      | some b => exact ⟨some i, fun A a1 a2 a3 => by have := a3 i rfl; omega, fun s hs => by
          obtain rfl := Option.some.inj hs
          exact ⟨Nat.le_refl _, hi, by rw [hp]; simp⟩⟩
    · exact ⟨none, fun A h1 h2 _ => by omega, fun s hs => by simp at hs⟩
theorem NextIs.step {L : List UInt8} {i : Nat} {r : Option Nat} (h : NextIs L i r) (hp : parse (L.drop i) = none) : NextIs L (i + 1) r :=
  ⟨fun A a1 a2 a3 => h.1 A (by omega) a2 a3, fun s hs => by
    obtain ⟨h1, h2, h3⟩ := h.2 s hs
    refine ⟨?_, h2, h3⟩
    by_cases e : s = i
    · subst e; exact absurd hp h3
    · omega⟩
theorem NextIs.hit {L : List UInt8} {i : Nat} {r : Option Nat} (h : NextIs L i r) (hi : i < L.length) {b : Bl} (hp : parse (L.drop i) = some b) : r = some i := by
  cases r with
  | none =>
    have := h.1 i (Nat.le_refl _) hi (fun s hs => by simp at hs)
    rw [hp] at this
    simp at this
  | some s =>
    obtain ⟨h1, h2, h3⟩ := h.2 s rfl
    by_cases e : s = i
    · rw [e]
    · have := h.1 i (Nat.le_refl _) hi (fun t ht => by obtain rfl := Option.some.inj ht; omega)
      rw [hp] at this
      simp at this
theorem NextIs.past {L : List UInt8} {i : Nat} {r : Option Nat} (h : NextIs L i r) (hi : L.length ≤ i) : r = none := by
  cases r with
  | none => rfl
  | some s => have := h.2 s rfl; omega
theorem NextIs.ahead {L : List UInt8} {i j : Nat} {r : Option Nat} (h : NextIs L i r) (hj : i ≤ j) (hp : ∀ A, i ≤ A → A < j → parse (L.drop A) = none) : NextIs L j r := by
  obtain ⟨d, rfl⟩ : ∃ d, j = i + d := ⟨j - i, by omega⟩
  clear hj
  induction d with
  | zero => exact h
  | succ d ih => exact (ih (fun A a1 a2 => hp A a1 (by omega))).step (hp (i + d) (by omega) (by omega))
theorem parse_mark {L : List UInt8} {A : Nat} {b : Bl} (h : parse (L.drop A) = some b) : L[A]? = some 181 := by
  obtain ⟨rfl, hb⟩ := parse_some h
  have h1 := hb.1.2.1
  have h0 := hb.1.1
  rw [List.length_drop] at h0
  have hA : A < L.length := by omega
  rw [List.getElem?_eq_getElem hA]
  unfold bat at h1
  rw [List.getD_eq_getElem?_getD, List.getElem?_drop, Nat.add_zero, List.getElem?_eq_getElem hA] at h1
  simp at h1
  congr 1
  exact UInt8.toNat_inj.1 h1
theorem no_mark {L : List UInt8} {A : Nat} (h : L[A]? ≠ some 181) : parse (L.drop A) = none := by
  cases hp : parse (L.drop A) with
  | none => rfl
  | some b => exact absurd (parse_mark hp) h
def nbV : Option Nat → Int
  | some s => (s : Int)
  | none => -1

set_option maxHeartbeats 4000000 in
set_option maxRecDepth 100000 in
theorem c_l7Most (S : ByteArray) (w : World) (hS : S.size ≤ 1000000000000) : Calls Tryd.prog 18 #[.string S] w (Same (.bool (decide (S.size ≤ 8000))) w) := by
  by_cases h : S.size ≤ 8000
  · have hd1 : decide ((S.size : Int) ≤ 8000) = true := decide_eq_true (by omega)
    rw [decide_eq_true h]
    go_enter Tryd.func18, Tryd.ntmps18
    go_wp2_with fail
    go_ret
    exact ⟨rfl, rfl⟩
  · have hd1 : decide ((S.size : Int) ≤ 8000) = false := decide_eq_false (by omega)
    rw [decide_eq_false h]
    go_enter Tryd.func18, Tryd.ntmps18
    go_wp2_with fail
    go_ret
    exact ⟨rfl, rfl⟩

theorem c_sNextBlock_no (S : ByteArray) (i : Int) (w : World) (hS : S.size ≤ 1000000000000) (h : ¬ (S.size ≤ 8000 ∧ 0 ≤ i)) : Calls Tryd.prog 6 #[.string S, .int .i64 i] w fun e w' => e = .returned (.int .i64 (-1)) ∧ Below w.heap.size w w' := by
  have HM := hid (c_l7Most S w hS)
  by_cases h1 : S.size ≤ 8000
  · have hd : decide (i < 0) = true := decide_eq_true (by omega)
    rw [decide_eq_true h1] at HM
    clear h h1
    go_enter Tryd.func6, Tryd.ntmps6
    go_wp2_with fail
    refine (HM.out).mono ?_
    rintro e w1 ⟨rfl, rfl⟩
    go_wp2_with fail
    go_ret
    exact ⟨rfl, Below.refl _ _⟩
  · rw [decide_eq_false h1] at HM
    clear h h1
    go_enter Tryd.func6, Tryd.ntmps6
    go_wp2_with fail
    refine (HM.out).mono ?_
    rintro e w1 ⟨rfl, rfl⟩
    go_wp2_with fail
    go_ret
    exact ⟨rfl, Below.refl _ _⟩

set_option maxHeartbeats 4000000 in
set_option maxRecDepth 100000 in
theorem c_sNextBlock (S : ByteArray) (L : List UInt8) (i : Nat) (r : Option Nat) (w : World) (hS : S.size ≤ 8000) (hL : L = S.data.toList) (hi : i ≤ 9223372036854775807) (h : NextIs L i r) : Calls Tryd.prog 6 #[.string S, .int .i64 (i : Int)] w fun e w' => e = .returned (.int .i64 (nbV r)) ∧ Below w.heap.size w w' := by
  have hLl : L.length = S.size := by rw [hL]; simp
  have HM := hid (c_l7Most S w (by omega))
  rw [decide_eq_true hS] at HM
  have HS := hid (fun (k : Nat) (b : Bl) (v : World) (hk : k ≤ S.size) (hp : parse (L.drop k) = some b) => c_PB_some S k (L.drop k) b v (by omega) hk (by rw [hL]) hp)
  have HN := hid (fun (k : Nat) (v : World) (hk : k ≤ S.size) (hp : parse (L.drop k) = none) => c_PB_none S k (L.drop k) v (by omega) hk (by rw [hL]) hp)
  unfold noPb at HN
  have HI := hid h
  have HL := hid hL
  have HLl := hid hLl
  have hd0 : decide ((i : Int) < 0) = false := decide_eq_false (by omega)
  clear h hL hLl
  go_enter Tryd.func6, Tryd.ntmps6
  go_wp2_with fail
  refine (HM.out).mono ?_
  rintro e w1 ⟨rfl, rfl⟩
  go_wp2_with fail
  go_loopw [1] (fun u wr => ∃ k : Nat, u = .int .i64 k ∧ k ≤ 9223372036854775807 ∧ Hid (NextIs L k r) ∧ Below w.heap.size w wr) (fun u _ => S.size - (intOf u).toNat)
  case atStart => exact ⟨i, rfl, hi, HI, Below.refl _ _⟩
  case round =>
    clear hd0
    obtain ⟨k, rfl, hk, HK, hbl⟩ := hrel
    by_cases hlt : k < S.size
    · have hix := idx_st (P := Tryd.prog) Tryd.underlying9 S k hlt .i64 (k : Int) rfl
      obtain ⟨x, hx⟩ : ∃ x, x = S[k] := ⟨_, rfl⟩
      rw [← hx] at hix
      have HX := hid (show L[k]? = some x by rw [HL.out, at_get S k hlt, hx])
      clear hx
      by_cases h181 : x = 181
      · have hne : (((x.toNat : Nat) : Int) == 181) = true := by rw [h181]; rfl
        have hxx : x.toNat = 181 := by rw [h181]; rfl
        cases hp : parse (L.drop k) with
        | none =>
          have HK2 := hid (HK.out.step hp)
          have HC := hid (HN.out k wr (by omega) hp)
          clear h181 hp
          go_wp2_with fail
          refine (HC.out).mono ?_
          rintro e w2 ⟨rfl, hb2⟩
          have hRB := Blk.new w2 35 #[.int .i64 0, .bool false, .int .i64 0, .string ByteArray.empty]
          obtain ⟨r0, r1, r2, r3⟩ := hRB.cells4y
          have f0 := hRB.frozen 0
          have f1 := hRB.frozen 1
          have f2 := hRB.frozen 2
          have f3 := hRB.frozen 3
          have hbl2 := hbl.trans (hb2.mono hbl.size)
          clear hRB hb2
          go_wp2_with fail
          go_roundw
          case rel => exact ⟨k + 1, by go_num, by omega, HK2, by (repeat (first | with_reducible (first | assumption | exact Below.refl _ _ | refine bel_alloc ?_ _ | refine bel_drew ?_ | refine bel_drewN ?_ _ | refine bel_set ?_ (by first | omega | (simp; done) | (simp; omega)) _ | refine bel_trans ?_ (by assumption)) | assumption | refine bel_trans ?_ (by assumption)))⟩
          case measure => simp [intOf]; omega
        | some b =>
          have HK2 := hid (HK.out.hit (by have := HLl.out; omega) hp)
          have HC := hid (HS.out k b wr (by omega) hp)
          clear h181 hp
          go_wp2_with fail
          refine (HC.out).mono ?_
          rintro e w2 ⟨rfl, hb2⟩
          have hRB := Blk.new w2 35 #[.int .i64 0, .bool false, .int .i64 0, .string ByteArray.empty]
          obtain ⟨r0, r1, r2, r3⟩ := hRB.cells4y
          have f0 := hRB.frozen 0
          have f1 := hRB.frozen 1
          have f2 := hRB.frozen 2
          have f3 := hRB.frozen 3
          have hbl2 := hbl.trans (hb2.mono hbl.size)
          clear hRB hb2
          go_wp2_with fail
          go_ret
          exact ⟨by rw [HK2.out]; rfl, by (repeat (first | with_reducible (first | assumption | exact Below.refl _ _ | refine bel_alloc ?_ _ | refine bel_drew ?_ | refine bel_drewN ?_ _ | refine bel_set ?_ (by first | omega | (simp; done) | (simp; omega)) _ | refine bel_trans ?_ (by assumption)) | assumption | refine bel_trans ?_ (by assumption)))⟩
      · have hne : (((x.toNat : Nat) : Int) == 181) = false := by
          rw [beq_eq_false_iff_ne]
          intro e
          exact h181 (UInt8.toNat_inj.1 (by show x.toNat = 181; omega))
        have HK2 := hid (HK.out.step (no_mark (by rw [HX.out]; intro e; exact h181 (Option.some.inj e))))
        clear h181
        go_wp2_with fail
        go_roundw
        case rel => exact ⟨k + 1, by go_num, by omega, HK2, hbl⟩
        case measure => simp [intOf]; omega
    · have HE := hid (HK.out.past (by have := HLl.out; omega))
      clear HK
      go_wp2_with fail
      go_ret
      exact ⟨by rw [HE.out]; rfl, hbl⟩
end Go.Proofs.YtepbjmpbcobfpaaDoor
