/- Contracts of SharedStart, SharedEnd, PatchOf, ApplyPatch, InvertPatch in both programs. No condition but that the numbers are int's. -/
import Derived.Test.YtfklkepodpcdgaaBa
import Derived.Test.YtfklkepodpcdgaaBb
import Derived.Deep.QuietTactic
import Derived.BigQuiet
namespace Go.Proofs.Ytfklkepodpcdgaa
open Go.ChangeShapes Go.WideShapes Go.ChangeAt Go.RowKit Go.Joins
set_option linter.unusedVariables false

/-- how many bytes two strings share at their beginnings -/
def agree : List UInt8 → List UInt8 → Nat
  | a :: s, b :: t => if a = b then agree s t + 1 else 0
  | _, _ => 0
theorem agree_of : ∀ (n : Nat) (a b : List UInt8), n ≤ a.length → n ≤ b.length → (∀ i, i < n → a[i]? = b[i]?) → (n = a.length ∨ n = b.length ∨ a[n]? ≠ b[n]?) → agree a b = n
  | 0, a, b, _, _, _, h => by
    cases a with
    | nil => rfl
    | cons x s =>
      cases b with
      | nil => rfl
      | cons y t =>
        rcases h with h | h | h
        · simp at h
        · simp at h
        · have : x ≠ y := fun e => h (by simp [e])
          simp [agree, this]
  | n + 1, a, b, ha, hb, he, h => by
    cases a with
    | nil => simp at ha
    | cons x s =>
      cases b with
      | nil => simp at hb
      | cons y t =>
        have h0 := he 0 (by omega)
        simp at h0
        have ih := agree_of n s t (by simpa using ha) (by simpa using hb) (fun i hi => by have := he (i + 1) (by omega); simpa using this) (by simpa using h)
        simp [agree, h0, ih]
def sharedS (a b : ByteArray) : Nat := agree a.data.toList b.data.toList
def sharedE (a b : ByteArray) : Nat := agree a.data.toList.reverse b.data.toList.reverse
theorem agree_le (a b : List UInt8) : agree a b ≤ a.length ∧ agree a b ≤ b.length := by
  induction a generalizing b with
  | nil => simp [agree]
  | cons x s ih =>
    cases b with
    | nil => simp [agree]
    | cons y t =>
      have := ih t
      unfold agree
      split <;> simp <;> omega
theorem sharedS_le (a b : ByteArray) : sharedS a b ≤ a.size ∧ sharedS a b ≤ b.size := by
  have := agree_le a.data.toList b.data.toList
  simpa [sharedS] using this
theorem sharedE_le (a b : ByteArray) : sharedE a b ≤ a.size ∧ sharedE a b ≤ b.size := by
  have := agree_le a.data.toList.reverse b.data.toList.reverse
  simpa [sharedE] using this
theorem at_get (a : ByteArray) (n : Nat) (h : n < a.size) : a.data.toList[n]? = some a[n] := by
  rw [List.getElem?_eq_getElem (by simpa using h)]
  rfl
theorem at_rev (a : ByteArray) (n : Nat) (h : n < a.size) : a.data.toList.reverse[n]? = some (a[a.size - 1 - n]'(by omega)) := by
  rw [List.getElem?_reverse (by simpa using h)]
  rw [at_get a _ (by simp; omega)]
  simp
theorem byte_eq {x y : UInt8} (h : ((x.toNat : Int) == (y.toNat : Int)) = true) : x = y := by
  have : (x.toNat : Int) = y.toNat := by simpa using h
  exact UInt8.toNat_inj.1 (by omega)
theorem byte_eq' {x y : UInt8} (h : (x.toNat : Int) = (y.toNat : Int)) : x = y := UInt8.toNat_inj.1 (by omega)
theorem byte_ne {x y : UInt8} (h : (x.toNat : Int) ≠ (y.toNat : Int)) : x ≠ y := fun e => h (by rw [e])

theorem idx_st {P : Program} {t : TypeId} (ht : P.underlying t = some .string) (s : ByteArray) (n : Nat) (h : n < s.size) (k : IntKind) (X : Int) (hX : X = (n : Int)) (w : World) :
    (Instr.index t (.string s) (.int k X)).run P w = .ok (.int .u8 ((s[n]).toNat : Int)) w := by
  subst hX
  have e := run_index_string (P := P) (w := w) t s k (n : Int) ht
  rw [dif_pos (by omega)] at e
  exact e

theorem c_sSharedStart (a b : ByteArray) (w : World) (ha : a.size ≤ maxLen) (hb : b.size ≤ maxLen) : Calls Try.prog 21 #[.string a, .string b] w fun e w' => e = .returned (.int .i64 (sharedS a b : Nat)) ∧ Below w.heap.size w w' := by
  unfold maxLen at ha hb
  have HS := hid (fun (n : Nat) (h1 : n ≤ a.size) (h2 : n ≤ b.size) (h3 : ∀ i, i < n → a.data.toList[i]? = b.data.toList[i]?) (h4 : n = a.size ∨ n = b.size ∨ a.data.toList[n]? ≠ b.data.toList[n]?) => (agree_of n a.data.toList b.data.toList (by simpa using h1) (by simpa using h2) h3 (by simpa using h4) : sharedS a b = n))
  go_enter Try.func21, Try.ntmps21
  go_wp2_with fail
  go_loopw [5] (fun i wr => ∃ k : Nat, k ≤ a.size ∧ k ≤ b.size ∧ i = .int .i64 k ∧ Hid (∀ i, i < k → a.data.toList[i]? = b.data.toList[i]?) ∧ Below w.heap.size w wr) (fun i _ => a.size - (intOf i).toNat)
  case atStart => exact ⟨0, Nat.zero_le _, Nat.zero_le _, rfl, hid (fun i hi => by omega), Below.refl _ _⟩
  case round =>
    obtain ⟨k, hka, hkb, rfl, HK, hbl⟩ := hrel
    by_cases h1 : k < a.size
    · have hd1 : decide ((k : Int) < (a.size : Int)) = true := decide_eq_true (by omega)
      by_cases h2 : k < b.size
      · have hd2 : decide ((k : Int) < (b.size : Int)) = true := decide_eq_true (by omega)
        have hxa := idx_st (P := Try.prog) Try.underlying9 a k (by omega) .i64 (k : Int) (by omega)
        have hxb := idx_st (P := Try.prog) Try.underlying9 b k (by omega) .i64 (k : Int) (by omega)
        obtain ⟨x, hx⟩ : ∃ x, x = a[k]'(by omega) := ⟨_, rfl⟩
        obtain ⟨y, hy⟩ : ∃ y, y = b[k]'(by omega) := ⟨_, rfl⟩
        rw [← hx] at hxa
        rw [← hy] at hxb
        have HX := hid hx
        have HY := hid hy
        clear hx hy
        by_cases h3 : (x.toNat : Int) = (y.toNat : Int)
        · have he := eq_yes h3
          have HK1 := hid (fun (i : Nat) (hi : i < k + 1) => show a.data.toList[i]? = b.data.toList[i]? by
            by_cases hi2 : i < k
            · exact HK.out i hi2
            · obtain rfl : i = k := by omega
              rw [at_get a i h1, at_get b i h2, ← HX.out, ← HY.out, byte_eq' h3])
          clear h3
          go_wp2_with fail
          go_quiet (fail)
          go_wp2
          go_roundw
          case rel => exact ⟨k + 1, by omega, by omega, by go_num, HK1, by (repeat (first | with_reducible (first | assumption | exact Below.refl _ _ | refine bel_alloc ?_ _ | refine bel_drew ?_ | refine bel_drewN ?_ _ | refine bel_set ?_ (by first | omega | (simp; done) | (simp; omega)) _ | refine bel_trans ?_ (by assumption)) | assumption | refine bel_trans ?_ (by assumption)))⟩
          case measure => simp [intOf]; omega
        · have he : ((x.toNat : Int) == (y.toNat : Int)) = false := by simpa using h3
          have HS1 := hid (HS.out k hka hkb HK.out (Or.inr (Or.inr (by rw [at_get a k h1, at_get b k h2, ← HX.out, ← HY.out]; exact fun e => byte_ne h3 (Option.some.inj e)))))
          clear h3
          go_wp2_with fail
          go_quiet (fail)
          go_wp2
          go_ret
          exact ⟨ret_int (congrArg (fun n : Nat => (n : Int)) HS1.out.symm), by (repeat (first | with_reducible (first | assumption | exact Below.refl _ _ | refine bel_alloc ?_ _ | refine bel_drew ?_ | refine bel_drewN ?_ _ | refine bel_set ?_ (by first | omega | (simp; done) | (simp; omega)) _ | refine bel_trans ?_ (by assumption)) | assumption | refine bel_trans ?_ (by assumption)))⟩
      · have hd2 : decide ((k : Int) < (b.size : Int)) = false := decide_eq_false (by omega)
        have HS1 := hid (HS.out k hka hkb HK.out (Or.inr (Or.inl (by omega))))
        go_wp2_with fail
        go_quiet (fail)
        go_wp2
        go_ret
        exact ⟨ret_int (congrArg (fun n : Nat => (n : Int)) HS1.out.symm), by (repeat (first | with_reducible (first | assumption | exact Below.refl _ _ | refine bel_alloc ?_ _ | refine bel_drew ?_ | refine bel_drewN ?_ _ | refine bel_set ?_ (by first | omega | (simp; done) | (simp; omega)) _ | refine bel_trans ?_ (by assumption)) | assumption | refine bel_trans ?_ (by assumption)))⟩
    · have hd1 : decide ((k : Int) < (a.size : Int)) = false := decide_eq_false (by omega)
      have HS1 := hid (HS.out k hka hkb HK.out (Or.inl (by omega)))
      go_wp2_with fail
      go_quiet (fail)
      go_wp2
      go_ret
      exact ⟨ret_int (congrArg (fun n : Nat => (n : Int)) HS1.out.symm), by (repeat (first | with_reducible (first | assumption | exact Below.refl _ _ | refine bel_alloc ?_ _ | refine bel_drew ?_ | refine bel_drewN ?_ _ | refine bel_set ?_ (by first | omega | (simp; done) | (simp; omega)) _ | refine bel_trans ?_ (by assumption)) | assumption | refine bel_trans ?_ (by assumption)))⟩

theorem c_sSharedEnd (a b : ByteArray) (w : World) (ha : a.size ≤ maxLen) (hb : b.size ≤ maxLen) : Calls Try.prog 23 #[.string a, .string b] w fun e w' => e = .returned (.int .i64 (sharedE a b : Nat)) ∧ Below w.heap.size w w' := by
  unfold maxLen at ha hb
  have HS := hid (fun (n : Nat) (h1 : n ≤ a.size) (h2 : n ≤ b.size) (h3 : ∀ i, i < n → a.data.toList.reverse[i]? = b.data.toList.reverse[i]?) (h4 : n = a.size ∨ n = b.size ∨ a.data.toList.reverse[n]? ≠ b.data.toList.reverse[n]?) => (agree_of n a.data.toList.reverse b.data.toList.reverse (by simpa using h1) (by simpa using h2) h3 (by simpa using h4) : sharedE a b = n))
  go_enter Try.func23, Try.ntmps23
  go_wp2_with fail
  go_loopw [5] (fun i wr => ∃ k : Nat, k ≤ a.size ∧ k ≤ b.size ∧ i = .int .i64 k ∧ Hid (∀ i, i < k → a.data.toList.reverse[i]? = b.data.toList.reverse[i]?) ∧ Below w.heap.size w wr) (fun i _ => a.size - (intOf i).toNat)
  case atStart => exact ⟨0, Nat.zero_le _, Nat.zero_le _, rfl, hid (fun i hi => by omega), Below.refl _ _⟩
  case round =>
    obtain ⟨k, hka, hkb, rfl, HK, hbl⟩ := hrel
    by_cases h1 : k < a.size
    · have hd1 : decide ((k : Int) < (a.size : Int)) = true := decide_eq_true (by omega)
      by_cases h2 : k < b.size
      · have hd2 : decide ((k : Int) < (b.size : Int)) = true := decide_eq_true (by omega)
        have hwa1 : IntKind.i64.wrap ((a.size : Int) - 1) = (a.size : Int) - 1 := IntWalk.i64_in _ (by omega)
        have hwa2 : IntKind.i64.wrap ((a.size : Int) - 1 - k) = (a.size : Int) - 1 - k := IntWalk.i64_in _ (by omega)
        have hwb1 : IntKind.i64.wrap ((b.size : Int) - 1) = (b.size : Int) - 1 := IntWalk.i64_in _ (by omega)
        have hwb2 : IntKind.i64.wrap ((b.size : Int) - 1 - k) = (b.size : Int) - 1 - k := IntWalk.i64_in _ (by omega)
        have hxa := idx_st (P := Try.prog) Try.underlying9 a (a.size - 1 - k) (by omega) .i64 ((a.size : Int) - 1 - k) (by omega)
        have hxb := idx_st (P := Try.prog) Try.underlying9 b (b.size - 1 - k) (by omega) .i64 ((b.size : Int) - 1 - k) (by omega)
        obtain ⟨x, hx⟩ : ∃ x, x = a[(a.size - 1 - k)]'(by omega) := ⟨_, rfl⟩
        obtain ⟨y, hy⟩ : ∃ y, y = b[(b.size - 1 - k)]'(by omega) := ⟨_, rfl⟩
        rw [← hx] at hxa
        rw [← hy] at hxb
        have HX := hid hx
        have HY := hid hy
        clear hx hy
        by_cases h3 : (x.toNat : Int) = (y.toNat : Int)
        · have he := eq_yes h3
          have HK1 := hid (fun (i : Nat) (hi : i < k + 1) => show a.data.toList.reverse[i]? = b.data.toList.reverse[i]? by
            by_cases hi2 : i < k
            · exact HK.out i hi2
            · obtain rfl : i = k := by omega
              rw [at_rev a i h1, at_rev b i h2, ← HX.out, ← HY.out, byte_eq' h3])
          clear h3
          go_wp2_with fail
          go_quiet (fail)
          go_wp2
          go_roundw
          case rel => exact ⟨k + 1, by omega, by omega, by go_num, HK1, by (repeat (first | with_reducible (first | assumption | exact Below.refl _ _ | refine bel_alloc ?_ _ | refine bel_drew ?_ | refine bel_drewN ?_ _ | refine bel_set ?_ (by first | omega | (simp; done) | (simp; omega)) _ | refine bel_trans ?_ (by assumption)) | assumption | refine bel_trans ?_ (by assumption)))⟩
          case measure => simp [intOf]; omega
        · have he : ((x.toNat : Int) == (y.toNat : Int)) = false := by simpa using h3
          have HS1 := hid (HS.out k hka hkb HK.out (Or.inr (Or.inr (by rw [at_rev a k h1, at_rev b k h2, ← HX.out, ← HY.out]; exact fun e => byte_ne h3 (Option.some.inj e)))))
          clear h3
          go_wp2_with fail
          go_quiet (fail)
          go_wp2
          go_ret
          exact ⟨ret_int (congrArg (fun n : Nat => (n : Int)) HS1.out.symm), by (repeat (first | with_reducible (first | assumption | exact Below.refl _ _ | refine bel_alloc ?_ _ | refine bel_drew ?_ | refine bel_drewN ?_ _ | refine bel_set ?_ (by first | omega | (simp; done) | (simp; omega)) _ | refine bel_trans ?_ (by assumption)) | assumption | refine bel_trans ?_ (by assumption)))⟩
      · have hd2 : decide ((k : Int) < (b.size : Int)) = false := decide_eq_false (by omega)
        have HS1 := hid (HS.out k hka hkb HK.out (Or.inr (Or.inl (by omega))))
        go_wp2_with fail
        go_quiet (fail)
        go_wp2
        go_ret
        exact ⟨ret_int (congrArg (fun n : Nat => (n : Int)) HS1.out.symm), by (repeat (first | with_reducible (first | assumption | exact Below.refl _ _ | refine bel_alloc ?_ _ | refine bel_drew ?_ | refine bel_drewN ?_ _ | refine bel_set ?_ (by first | omega | (simp; done) | (simp; omega)) _ | refine bel_trans ?_ (by assumption)) | assumption | refine bel_trans ?_ (by assumption)))⟩
    · have hd1 : decide ((k : Int) < (a.size : Int)) = false := decide_eq_false (by omega)
      have HS1 := hid (HS.out k hka hkb HK.out (Or.inl (by omega)))
      go_wp2_with fail
      go_quiet (fail)
      go_wp2
      go_ret
      exact ⟨ret_int (congrArg (fun n : Nat => (n : Int)) HS1.out.symm), by (repeat (first | with_reducible (first | assumption | exact Below.refl _ _ | refine bel_alloc ?_ _ | refine bel_drew ?_ | refine bel_drewN ?_ _ | refine bel_set ?_ (by first | omega | (simp; done) | (simp; omega)) _ | refine bel_trans ?_ (by assumption)) | assumption | refine bel_trans ?_ (by assumption)))⟩

theorem c_SS1 (k : Nat) (pa pb : Nat) (a b : ByteArray) (w : World) (ha : a.size ≤ maxLen) (hb : b.size ≤ maxLen) (pA : w.cell? ⟨pa, 0, none⟩ = some (.string a)) (pB : w.cell? ⟨pb, 0, none⟩ = some (.string b)) (h1 : k < a.size) (h2 : k < b.size) : Calls Try.prog 85 #[.int .i64 (k : Int), .pointer (some ⟨pa, 0, none⟩), .pointer (some ⟨pb, 0, none⟩)] w fun e w' => e = .returned (.bool (decide (a.data.toList[k]? = b.data.toList[k]?))) ∧ Below w.heap.size w w' := by
  unfold maxLen at ha hb
  have hxa := idx_st (P := Try.prog) Try.underlying9 a k (by omega) .i64 (k : Int) (by omega)
  have hxb := idx_st (P := Try.prog) Try.underlying9 b k (by omega) .i64 (k : Int) (by omega)
  obtain ⟨x, hx⟩ : ∃ x, x = a[k]'(by omega) := ⟨_, rfl⟩
  obtain ⟨y, hy⟩ : ∃ y, y = b[k]'(by omega) := ⟨_, rfl⟩
  rw [← hx] at hxa
  rw [← hy] at hxb
  have HE := hid (show decide (a.data.toList[k]? = b.data.toList[k]?) = ((x.toNat : Int) == (y.toNat : Int)) by
    rw [at_get a k h1, at_get b k h2, ← hx, ← hy]
    by_cases e : x = y
    · subst e; simp
    · have : ¬ ((x.toNat : Int) = (y.toNat : Int)) := fun e2 => e (byte_eq' e2)
      simp [e, this])
  clear hx hy
  go_enter Try.func85, Try.ntmps85
  go_wp2_with fail
  go_quiet (fail)
  go_wp2
  go_ret
  exact ⟨ret_bool (by rw [HE.out]), by (repeat (first | with_reducible (first | assumption | exact Below.refl _ _ | refine bel_alloc ?_ _ | refine bel_drew ?_ | refine bel_drewN ?_ _ | refine bel_set ?_ (by first | omega | (simp; done) | (simp; omega)) _ | refine bel_trans ?_ (by assumption)) | assumption | refine bel_trans ?_ (by assumption)))⟩

theorem c_agreeingSS (n : Nat) (pa pb : Nat) (a b : ByteArray) (w : World) (ha : a.size ≤ maxLen) (hb : b.size ≤ maxLen) (pA : w.cell? ⟨pa, 0, none⟩ = some (.string a)) (pB : w.cell? ⟨pb, 0, none⟩ = some (.string b)) (h1 : n ≤ a.size) (h2 : n ≤ b.size) (h3 : n = a.size ∨ n = b.size) : Calls Try.prog 84 #[.int .i64 (n : Int), .func (.func 85) #[] #[.pointer (some ⟨pa, 0, none⟩), .pointer (some ⟨pb, 0, none⟩)]] w fun e w' => e = .returned (.int .i64 (sharedS a b : Nat)) ∧ Below w.heap.size w w' := by
  have HC := hid (fun (k : Nat) (v : World) (hb2 : Below w.heap.size w v) (h4 : k < n) => c_SS1 k pa pb a b v ha hb (cell_to pA hb2) (cell_to pB hb2) (by omega) (by omega))
  unfold maxLen at ha hb
  have HS := hid (fun (m : Nat) (q1 : m ≤ n) (q3 : ∀ i, i < m → a.data.toList[i]? = b.data.toList[i]?) (q4 : m = n ∨ a.data.toList[m]? ≠ b.data.toList[m]?) => (agree_of m a.data.toList b.data.toList (by simp; omega) (by simp; omega) q3 (by rcases q4 with q4 | q4; subst q4; simp; omega; exact Or.inr (Or.inr q4)) : sharedS a b = m))
  clear pA pB
  go_enter Try.func84, Try.ntmps84
  go_wp2_with fail
  go_loopw [7] (fun i wr => ∃ k : Nat, k ≤ n ∧ i = .int .i64 k ∧ Hid (∀ i, i < k → a.data.toList[i]? = b.data.toList[i]?) ∧ Below w.heap.size w wr) (fun i _ => n - (intOf i).toNat)
  case atStart => exact ⟨0, Nat.zero_le _, rfl, hid (fun i hi => by omega), Below.refl _ _⟩
  case round =>
    obtain ⟨k, hk, rfl, HK, hbl⟩ := hrel
    by_cases hlt : k < n
    · have HC1 := hid (HC.out k wr hbl hlt)
      by_cases he : a.data.toList[k]? = b.data.toList[k]?
      · have HK1 := hid (fun (i : Nat) (hi : i < k + 1) => show a.data.toList[i]? = b.data.toList[i]? by
          by_cases hi2 : i < k
          · exact HK.out i hi2
          · obtain rfl : i = k := by omega
            exact he)
        simp only [decide_eq_true he] at HC1
        clear he
        go_wp2_with fail
        refine HC1.out.mono ?_
        rintro e w1 ⟨rfl, hb1⟩
        go_wp2
        go_roundw
        case rel => exact ⟨k + 1, by omega, by go_num, HK1, bel_trans hbl hb1⟩
        case measure => simp [intOf]; omega
      · have HS1 := hid (HS.out k hk HK.out (Or.inr he))
        simp only [decide_eq_false he] at HC1
        clear he
        go_wp2_with fail
        refine HC1.out.mono ?_
        rintro e w1 ⟨rfl, hb1⟩
        go_wp2
        go_ret
        exact ⟨ret_int (congrArg (fun n : Nat => (n : Int)) HS1.out.symm), bel_trans hbl hb1⟩
    · obtain rfl : k = n := by omega
      have HS1 := hid (HS.out k hk HK.out (Or.inl rfl))
      go_wp2
      go_ret
      exact ⟨ret_int (congrArg (fun n : Nat => (n : Int)) HS1.out.symm), hbl⟩

theorem c_SharedStart (a b : ByteArray) (w : World) (ha : a.size ≤ maxLen) (hb : b.size ≤ maxLen) : Calls Try.prog 22 #[.string a, .string b] w fun e w' => e = .returned (.int .i64 (sharedS a b : Nat)) ∧ Below w.heap.size w w' := by
  obtain ⟨n, hn1, hn2, hn3⟩ : ∃ n : Nat, n ≤ a.size ∧ n ≤ b.size ∧ (n = a.size ∨ n = b.size) := ⟨min a.size b.size, by omega, by omega, by omega⟩
  have HA := hid (fun (v : World) (p1 : v.cell? ⟨w.heap.size, 0, none⟩ = some (.string a)) (p2 : v.cell? ⟨w.heap.size + 1, 0, none⟩ = some (.string b)) => c_agreeingSS n w.heap.size (w.heap.size + 1) a b v ha hb p1 p2 hn1 hn2 hn3)
  have hmin : min (a.size : Int) (b.size : Int) = (n : Int) := by omega
  have hmf : ∀ (fn : Fn) (first cap : Array Value) (w : World), (Instr.makeFunc fn first cap).run Try.prog w = .ok (.func fn first cap) w := fun _ _ _ _ => rfl
  unfold maxLen at ha hb
  go_enter Try.func22, Try.ntmps22
  go_wp2_with fail
  refine (HA.out _ (((Blk.new w 9 #[.string a]).alloc _).cell 0) (by have := (Blk.new (w.alloc (.cells #[.string a] 9)) 9 #[.string b]).cell 0; rw [World.size_alloc] at this; exact this)).mono ?_
  rintro e w1 ⟨rfl, hb1⟩
  go_wp2
  go_ret
  exact ⟨rfl, by (repeat (first | with_reducible (first | assumption | exact Below.refl _ _ | refine bel_alloc ?_ _ | refine bel_drew ?_ | refine bel_drewN ?_ _ | refine bel_set ?_ (by first | omega | (simp; done) | (simp; omega)) _ | refine bel_trans ?_ (by assumption)) | assumption | refine bel_trans ?_ (by assumption)))⟩

theorem c_SE1 (k : Nat) (pa pb : Nat) (a b : ByteArray) (w : World) (ha : a.size ≤ maxLen) (hb : b.size ≤ maxLen) (pA : w.cell? ⟨pa, 0, none⟩ = some (.string a)) (pB : w.cell? ⟨pb, 0, none⟩ = some (.string b)) (h1 : k < a.size) (h2 : k < b.size) : Calls Try.prog 86 #[.int .i64 (k : Int), .pointer (some ⟨pa, 0, none⟩), .pointer (some ⟨pb, 0, none⟩)] w fun e w' => e = .returned (.bool (decide (a.data.toList.reverse[k]? = b.data.toList.reverse[k]?))) ∧ Below w.heap.size w w' := by
  unfold maxLen at ha hb
  have hxa := idx_st (P := Try.prog) Try.underlying9 a (a.size - 1 - k) (by omega) .i64 ((a.size : Int) - 1 - k) (by omega)
  have hxb := idx_st (P := Try.prog) Try.underlying9 b (b.size - 1 - k) (by omega) .i64 ((b.size : Int) - 1 - k) (by omega)
  obtain ⟨x, hx⟩ : ∃ x, x = a[(a.size - 1 - k)]'(by omega) := ⟨_, rfl⟩
  obtain ⟨y, hy⟩ : ∃ y, y = b[(b.size - 1 - k)]'(by omega) := ⟨_, rfl⟩
  rw [← hx] at hxa
  rw [← hy] at hxb
  have HE := hid (show decide (a.data.toList.reverse[k]? = b.data.toList.reverse[k]?) = ((x.toNat : Int) == (y.toNat : Int)) by
    rw [at_rev a k h1, at_rev b k h2, ← hx, ← hy]
    by_cases e : x = y
    · subst e; simp
    · have : ¬ ((x.toNat : Int) = (y.toNat : Int)) := fun e2 => e (byte_eq' e2)
      simp [e, this])
  clear hx hy
  have hwa1 : IntKind.i64.wrap ((a.size : Int) - 1) = (a.size : Int) - 1 := IntWalk.i64_in _ (by omega)
  have hwa2 : IntKind.i64.wrap ((a.size : Int) - 1 - k) = (a.size : Int) - 1 - k := IntWalk.i64_in _ (by omega)
  have hwb1 : IntKind.i64.wrap ((b.size : Int) - 1) = (b.size : Int) - 1 := IntWalk.i64_in _ (by omega)
  have hwb2 : IntKind.i64.wrap ((b.size : Int) - 1 - k) = (b.size : Int) - 1 - k := IntWalk.i64_in _ (by omega)
  go_enter Try.func86, Try.ntmps86
  go_wp2_with fail
  go_quiet (fail)
  go_wp2
  go_ret
  exact ⟨ret_bool (by rw [HE.out]), by (repeat (first | with_reducible (first | assumption | exact Below.refl _ _ | refine bel_alloc ?_ _ | refine bel_drew ?_ | refine bel_drewN ?_ _ | refine bel_set ?_ (by first | omega | (simp; done) | (simp; omega)) _ | refine bel_trans ?_ (by assumption)) | assumption | refine bel_trans ?_ (by assumption)))⟩

theorem c_agreeingSE (n : Nat) (pa pb : Nat) (a b : ByteArray) (w : World) (ha : a.size ≤ maxLen) (hb : b.size ≤ maxLen) (pA : w.cell? ⟨pa, 0, none⟩ = some (.string a)) (pB : w.cell? ⟨pb, 0, none⟩ = some (.string b)) (h1 : n ≤ a.size) (h2 : n ≤ b.size) (h3 : n = a.size ∨ n = b.size) : Calls Try.prog 84 #[.int .i64 (n : Int), .func (.func 86) #[] #[.pointer (some ⟨pa, 0, none⟩), .pointer (some ⟨pb, 0, none⟩)]] w fun e w' => e = .returned (.int .i64 (sharedE a b : Nat)) ∧ Below w.heap.size w w' := by
  have HC := hid (fun (k : Nat) (v : World) (hb2 : Below w.heap.size w v) (h4 : k < n) => c_SE1 k pa pb a b v ha hb (cell_to pA hb2) (cell_to pB hb2) (by omega) (by omega))
  unfold maxLen at ha hb
  have HS := hid (fun (m : Nat) (q1 : m ≤ n) (q3 : ∀ i, i < m → a.data.toList.reverse[i]? = b.data.toList.reverse[i]?) (q4 : m = n ∨ a.data.toList.reverse[m]? ≠ b.data.toList.reverse[m]?) => (agree_of m a.data.toList.reverse b.data.toList.reverse (by simp; omega) (by simp; omega) q3 (by rcases q4 with q4 | q4; subst q4; simp; omega; exact Or.inr (Or.inr q4)) : sharedE a b = m))
  clear pA pB
  go_enter Try.func84, Try.ntmps84
  go_wp2_with fail
  go_loopw [7] (fun i wr => ∃ k : Nat, k ≤ n ∧ i = .int .i64 k ∧ Hid (∀ i, i < k → a.data.toList.reverse[i]? = b.data.toList.reverse[i]?) ∧ Below w.heap.size w wr) (fun i _ => n - (intOf i).toNat)
  case atStart => exact ⟨0, Nat.zero_le _, rfl, hid (fun i hi => by omega), Below.refl _ _⟩
  case round =>
    obtain ⟨k, hk, rfl, HK, hbl⟩ := hrel
    by_cases hlt : k < n
    · have HC1 := hid (HC.out k wr hbl hlt)
      by_cases he : a.data.toList.reverse[k]? = b.data.toList.reverse[k]?
      · have HK1 := hid (fun (i : Nat) (hi : i < k + 1) => show a.data.toList.reverse[i]? = b.data.toList.reverse[i]? by
          by_cases hi2 : i < k
          · exact HK.out i hi2
          · obtain rfl : i = k := by omega
            exact he)
        simp only [decide_eq_true he] at HC1
        clear he
        go_wp2_with fail
        refine HC1.out.mono ?_
        rintro e w1 ⟨rfl, hb1⟩
        go_wp2
        go_roundw
        case rel => exact ⟨k + 1, by omega, by go_num, HK1, bel_trans hbl hb1⟩
        case measure => simp [intOf]; omega
      · have HS1 := hid (HS.out k hk HK.out (Or.inr he))
        simp only [decide_eq_false he] at HC1
        clear he
        go_wp2_with fail
        refine HC1.out.mono ?_
        rintro e w1 ⟨rfl, hb1⟩
        go_wp2
        go_ret
        exact ⟨ret_int (congrArg (fun n : Nat => (n : Int)) HS1.out.symm), bel_trans hbl hb1⟩
    · obtain rfl : k = n := by omega
      have HS1 := hid (HS.out k hk HK.out (Or.inl rfl))
      go_wp2
      go_ret
      exact ⟨ret_int (congrArg (fun n : Nat => (n : Int)) HS1.out.symm), hbl⟩

theorem c_SharedEnd (a b : ByteArray) (w : World) (ha : a.size ≤ maxLen) (hb : b.size ≤ maxLen) : Calls Try.prog 24 #[.string a, .string b] w fun e w' => e = .returned (.int .i64 (sharedE a b : Nat)) ∧ Below w.heap.size w w' := by
  obtain ⟨n, hn1, hn2, hn3⟩ : ∃ n : Nat, n ≤ a.size ∧ n ≤ b.size ∧ (n = a.size ∨ n = b.size) := ⟨min a.size b.size, by omega, by omega, by omega⟩
  have HA := hid (fun (v : World) (p1 : v.cell? ⟨w.heap.size, 0, none⟩ = some (.string a)) (p2 : v.cell? ⟨w.heap.size + 1, 0, none⟩ = some (.string b)) => c_agreeingSE n w.heap.size (w.heap.size + 1) a b v ha hb p1 p2 hn1 hn2 hn3)
  have hmin : min (a.size : Int) (b.size : Int) = (n : Int) := by omega
  have hmf : ∀ (fn : Fn) (first cap : Array Value) (w : World), (Instr.makeFunc fn first cap).run Try.prog w = .ok (.func fn first cap) w := fun _ _ _ _ => rfl
  unfold maxLen at ha hb
  go_enter Try.func24, Try.ntmps24
  go_wp2_with fail
  refine (HA.out _ (((Blk.new w 9 #[.string a]).alloc _).cell 0) (by have := (Blk.new (w.alloc (.cells #[.string a] 9)) 9 #[.string b]).cell 0; rw [World.size_alloc] at this; exact this)).mono ?_
  rintro e w1 ⟨rfl, hb1⟩
  go_wp2
  go_ret
  exact ⟨rfl, by (repeat (first | with_reducible (first | assumption | exact Below.refl _ _ | refine bel_alloc ?_ _ | refine bel_drew ?_ | refine bel_drewN ?_ _ | refine bel_set ?_ (by first | omega | (simp; done) | (simp; omega)) _ | refine bel_trans ?_ (by assumption)) | assumption | refine bel_trans ?_ (by assumption)))⟩
end Go.Proofs.Ytfklkepodpcdgaa
