/- Contracts of the model's own drawing of arguments: strings of bytes and of bits, orders. -/
import Derived.Test.YtlekjmgjnnljcaaDraw2
import Derived.Test.YtlekjmgjnnljcaaBj
namespace Go.Proofs.Ytlekjmgjnnljcaa
open Go.ChangeShapes Go.WideShapes Go.ChangeAt Go.RowKit Go.Joins
set_option linter.unusedVariables false

theorem Rd.grown {T : TypeId} {w w' : World} {L B q : Nat} {row : Option Nat} (h : Rd T w L B q) (hg : w.grownBy w' row) (hr : ∀ g, row = some g → B < g) : Rd T w' L B q := by
  obtain ⟨A, n, cap, p, hb, hc, hn, hL, h0, h1⟩ := h
  have := hb.lt
  refine ⟨A, n, cap, p, hb.grown hg (fun e => by have := hr B e.symm; omega), hc.keep (fun k hk => hg.block k (by omega) (fun e => by have := hr k e.symm; omega)), hn, hL, h0, h1⟩
theorem Rd.more {T : TypeId} {w : World} {L B q q' : Nat} (h : Rd T w L B q) (hq : q ≤ q') : Rd T w L B q' := by
  obtain ⟨A, n, cap, p, hb, hc, hn, hL, h0, h1⟩ := h
  exact ⟨A, n, cap, p, hb, hc, hn, hL, h0, by omega⟩
theorem grown_none {a b : World} (row : Option Nat) (h : a.grownBy b none) : a.grownBy b row := ⟨h.os, h.tape, h.output, h.size, fun k hk _ => h.block k hk (by simp)⟩
theorem grown_own {a b c : World} {row r2 : Option Nat} (h : a.grownBy b row) (hg : b.grownBy c r2) (hr : ∀ g, r2 = some g → a.heap.size ≤ g) : a.grownBy c row :=
  ⟨hg.os.trans h.os, hg.tape.trans h.tape, hg.output.trans h.output, Nat.le_trans h.size hg.size, fun k hk hne =>
    (hg.block k (Nat.lt_of_lt_of_le hk h.size) (fun e => by have := hr k e.symm; omega)).trans (h.block k hk hne)⟩
theorem own_grown {w w' : World} {M B : Nat} {e : TypeId} {v : Value} {n : Nat} {xs : List Value} (h : w.ownsRow M e 1 v n xs) (hg : w.grownBy w' (some B)) (hB : B < M) : w'.ownsRow M e 1 v n xs :=
  h.kept hg (by
    cases hv : v.ownBlock with
    | none => exact .inl rfl
    | some g => right; have := (h.lt g hv).1; simp; omega)

/-- what a draw of a string of at most m bytes answers -/
def Letters (T : TypeId) (w : World) (L B q m : Nat) (e : Ending) (w' : World) : Prop := ∃ l : List UInt8, e = .returned (.string (str l)) ∧ l.length ≤ m ∧ Rd T w' L B (q + m + 1) ∧ w.grownBy w' (some B)

theorem Try.info_u8d : (Try.prog.info? 5).map (fun i => (i.zero, i.size, i.bytes)) = some (some (.int .u8 0), 1, 1) := by kernel_rfl

set_option maxHeartbeats 1000000 in
theorem c_l1Bytes (L B q m : Nat) (w : World) (hr : Rd 51 w L B q) (hq : q ≤ 100000000000) (hm : m ≤ 100000) :
    Calls Try.prog 19 #[.pointer (some ⟨B, 0, none⟩), .int .i64 m] w (Letters 51 w L B q m) := by
  have hB := hr.lt
  go_enter Try.func19, Try.ntmps19
  go_wp2_with (at_make; refine make_bytes0 rfl _ _ 22 rfl w.heap.size 5 Try.underlying22 Try.info_u8d .i64 .i64 _ m rfl rfl (by omega) (by omega) (Nat.le_refl _) ?_; rintro v1 w1 rfl hown1 hb1 hg1)
  refine (c_pick L B q ((m : Int) + 1) w1 (hr.grown hg1 (by simp)) (by omega) (by omega)).mono ?_
  rintro e w2 ⟨N, rfl, hN0, hN1, _, hr2, hg2⟩
  have hN2 := hN1 (by omega)
  clear hN1
  obtain ⟨N, rfl⟩ := Int.eq_ofNat_of_zero_le hN0
  have hown2 := own_grown hown1 hg2 hB
  go_wp2_with fail
  go_loopw [5, 6] (fun v i wr => ∃ (j k : Nat) (l : List UInt8), i = .int .i64 j ∧ Hid (k + j = N) ∧ j ≤ N ∧ wr.ownsRow w.heap.size 5 1 v k (l.map vb) ∧ Rd 51 wr L B (q + 1 + k) ∧ w.grownBy wr (some B)) (fun _ i _ => (intOf i).toNat)
  case atStart => exact ⟨N, 0, [], rfl, hid (by omega), Nat.le_refl _, hown2, hr2, grown_trans (grown_none _ hg1) hg2⟩
  case round =>
    obtain ⟨j, k, l, rfl, HK, hj, hown, hrd, hgr⟩ := hrel
    have hk := HK.out
    have hkN : k ≤ N := by omega
    have hjk : k + j ≤ N := by omega
    have hjk2 : N ≤ k + j := by omega
    clear hk
    have hsz := hgr.size
    by_cases hz : 0 < j
    · go_wp2_with fail
      refine (c_pick L B (q + 1 + k) 256 wr hrd (by omega) (by decide)).mono ?_
      rintro e w3 ⟨c, rfl, hc0, hc1, _, hr3, hg3⟩
      have hc2 := hc1 (by decide)
      clear hc1
      have hown3 := own_grown hown hg3 hB
      have hsz3 := hg3.size
      obtain ⟨cc, rfl⟩ := Int.eq_ofNat_of_zero_le hc0
      have HC := hid (show (cc : Int) = ((UInt8.ofNat cc).toNat : Int) by rw [UInt8.toNat_ofNat']; omega)
      go_wp2_with (at_builtin; refine app_byte rfl _ _ 22 rfl w.heap.size 5 Try.underlying22 Try.info_u8d _ _ _ rfl hown3 _ _ HC.out 1 rfl (by omega) (by omega) ?_; intro v4 w4 hown4 hb4 hg4)
      have hge := own_ge hown3
      go_roundw
      case rel => exact ⟨j - 1, k + 1, _, by simp; omega, hid (by omega), by omega, hown4, hr3.grown hg4 (fun g hg => by have := hge g hg; omega), grown_own (grown_trans hgr hg3) hg4 hge⟩
      case measure => simp [intOf]; omega
    · have hcv := run_str Try.underlying22 Try.underlying5 Try.underlying9 hown
      have HL := hid (own_len hown)
      go_wp2
      go_ret
      exact ⟨l, rfl, by rw [HL.out]; omega, hrd.more (by omega), hgr⟩

/-- what a draw of an order answers: an int -/
def AnInt (T : TypeId) (w : World) (L B q m : Nat) (e : Ending) (w' : World) : Prop := ∃ x : Int, e = .returned (.int .i64 x) ∧ (-1 ≤ x ∧ x ≤ 9223372036854775807) ∧ Rd T w' L B (q + m) ∧ w.grownBy w' (some B)

/-- what DrawUnpackBits, DrawPackBits, DrawBitsCode .. answer: an order and a string -/
def IntStr (w : World) (m : Nat) (e : Ending) (w' : World) : Prop := ∃ (x : Int) (s : ByteArray), e = .returned (.tuple #[.int .i64 x, .string s]) ∧ (-1 ≤ x ∧ x ≤ 9223372036854775807) ∧ s.size ≤ m ∧ Below w.heap.size w w'
end Go.Proofs.Ytlekjmgjnnljcaa
