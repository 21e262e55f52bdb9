/- The text of what is known. Mathematics, and numbers from minus one on. -/
import Derived.Test.YtmfnfheahehpcaaGreatDoorIa
import Derived.Test.YtmfnfheahehpcaaGreatDoorBd
namespace Go.Proofs.YtmfnfheahehpcaaGreatDoor
open Go.ChangeShapes Go.WideShapes Go.ChangeAt Go.RowKit Go.Joins
set_option linter.unusedVariables false
set_option linter.unusedSimpArgs false

/-- the library writes numbers from minus one on, in this world and what it becomes -/
def TabN (w : World) : Prop := ∀ (v : World), Below w.heap.size w v → ∀ n : Int, -1 ≤ n → n ≤ 1000000000 → Calls Tryz.prog 25 #[.int .i64 n] v fun e w' => e = .returned (.string (str (Lib.itoa n))) ∧ Below v.heap.size v w'
theorem TabN.on {w w' : World} (h : TabN w) (hb : Below w.heap.size w w') : TabN w' := fun v hv n h0 h1 => h v (hb.trans (hv.mono hb.size)) n h0 h1
theorem itoaOfN {n : Int} {v : World} (h : Calls Tryz.prog 25 #[.int .i64 n] v fun e w' => e = .returned (.string ⟨(Lib.itoa n).toArray⟩) ∧ ∃ k os, w' = Go.Sort.grow (v.drewN k) os) : Calls Tryz.prog 25 #[.int .i64 n] v fun e w' => e = .returned (.string (str (Lib.itoa n))) ∧ Below v.heap.size v w' := by
  refine h.mono ?_
  rintro e w' ⟨rfl, k, os, rfl⟩
  exact ⟨rfl, Lib.below_grow _ v (Nat.le_refl _) k os⟩
theorem c_itoaN (n : Int) (w : World) (h0 : -1 ≤ n) (h1 : n ≤ 1000000000) (hT : TabN w) : Calls Tryz.prog 25 #[.int .i64 n] w fun e w' => e = .returned (.string (str (Lib.itoa n))) ∧ Below w.heap.size w w' := hT w (Below.refl _ w) n h0 h1
theorem TabN.tab {w : World} (h : TabN w) : Tab w := fun v hv n h0 h1 => by
  have := h v hv n (by omega) h1
  rwa [itoa_dec n h0] at this
theorem itoa_len (n : Int) (h0 : -1 ≤ n) (h1 : n ≤ 1000000000) : (Lib.itoa n).length ≤ 10 := by
  by_cases h : 0 ≤ n
  · rw [itoa_dec n h]; exact (dec_len n h h1).2
  · have : n = -1 := by omega
    subst this
    decide +kernel

set_option maxRecDepth 100000 in
theorem c_l9DecN (n : Int) (w : World) (h0 : -1 ≤ n) (h1 : n ≤ 1000000000) : Calls Tryz.prog 29 #[.int .i64 n] w fun e w' => e = .returned (.string (str (Lib.itoa n))) ∧ Below w.heap.size w w' := by
  by_cases h : 0 ≤ n
  · rw [itoa_dec n h]; exact c_l9Dec n w h (by omega)
  · have : n = -1 := by omega
    subst this
    have H1 := hid (fun (v : World) => c_l9Dec 1 v (by omega) (by omega))
    have e1 : dec 1 = [49] := by unfold dec; rw [show (1 : Int).toNat = 1 from rfl, decD_small (by omega)]; rfl
    have e2 : Lib.itoa (-1) = [45, 49] := by unfold Lib.itoa; rw [if_pos (by omega), show (-1 : Int).natAbs = 1 from rfl, decD_small (by omega)]; rfl
    rw [e1] at H1
    rw [e2]
    clear e1 e2 h h0 h1
    go_enter Tryz.func29, Tryz.ntmps29
    go_wp2_with fail
    refine (H1.out _).mono ?_
    rintro e w1 ⟨rfl, hb1⟩
    go_wp2_with fail
    go_ret
    exact ⟨rfl, hb1⟩

/-- texts, a byte between them -/
def jc (c : UInt8) (q : List ByteArray) : Nat → List UInt8
  | 0 => []
  | k + 1 => (jc c q k ++ (if 0 < k then [c] else [])) ++ (q.getD k ByteArray.empty).data.toList
theorem jc_join (c : UInt8) (q : List ByteArray) : ∀ k, k ≤ q.length → jc c q k = Lib.join ((q.take k).map (·.data.toList)) [c] := by
  intro k hk
  rw [List.map_take]
  cases q with
  | nil => simp at hk; subst hk; rfl
  | cons a r =>
    induction k with
    | zero => rfl
    | succ k ih =>
      have ih := ih (by omega)
      rw [jc, ih]
      simp only [List.map_cons]
      cases k with
      | zero => simp [Lib.join_one, Lib.join_nil, List.take]
      | succ j =>
        have hj : j < r.length := by simp at hk; omega
        rw [List.take_succ_cons, List.take_succ_cons, Lib.join_cons, Lib.join_cons, Lib.joinTail_take_succ [c] (r.map (·.data.toList)) j (r[j].data.toList) (by simp [hj])]
        simp [hj]
theorem jc_len (c : UInt8) (q : List ByteArray) (h : ∀ s ∈ q, s.size ≤ 21) : ∀ k, k ≤ q.length → (jc c q k).length ≤ 22 * k := by
  intro k hk
  induction k with
  | zero => simp [jc]
  | succ k ih =>
    have ih := ih (by omega)
    have h1 : (q.getD k ByteArray.empty).data.toList.length ≤ 21 := by
      rw [List.getD_eq_getElem?_getD, List.getElem?_eq_getElem (show k < q.length by omega)]
      exact h _ (List.getElem_mem _)
    rw [jc, List.length_append, List.length_append]
    split <;> simp only [List.length_cons, List.length_nil] <;> omega
/-- the text of a pair -/
def pkT (p : Pr) : ByteArray := str (dec p.1) ++ ⟨#[46]⟩ ++ str (dec p.2)
theorem pkT_size {p : Pr} (h1 : 0 ≤ p.1 ∧ p.1 ≤ 4000) (h2 : 0 ≤ p.2 ∧ p.2 ≤ 2000) : (pkT p).size ≤ 21 := by
  have a := dec_len p.1 h1.1 (by omega)
  have b := dec_len p.2 h2.1 (by omega)
  unfold pkT
  rw [ByteArray.size_append, ByteArray.size_append, str_size, str_size]
  show _ + 1 + _ ≤ 21
  omega
/-- the bounds of what is known -/
theorem kn_bd {k : Kn} (h : k.Ok) : k.ps.length ≤ 1022 ∧ (0 ≤ k.base ∧ k.base ≤ 1022) ∧ (-1 ≤ k.last ∧ k.last ≤ 2000) ∧ ∀ i (hi : i < k.ps.length), (0 ≤ k.ps[i].1 ∧ k.ps[i].1 ≤ 4000) ∧ (0 ≤ k.ps[i].2 ∧ k.ps[i].2 ≤ 2000) := by
  obtain ⟨s1, s2, s3⟩ := setOk_iff.1 h.set
  have hc : k.c ≤ 256 ∧ 2 ≤ k.c := by
    have : k.l = 1 ∨ k.l = 2 ∨ k.l = 3 ∨ k.l = 4 ∨ k.l = 5 ∨ k.l = 6 ∨ k.l = 7 ∨ k.l = 8 := by omega
    unfold Kn.c
    rcases this with e | e | e | e | e | e | e | e <;> rw [e] <;> decide
  have hm : k.lc ≤ 1023 := by
    have : k.m = 1 ∨ k.m = 2 ∨ k.m = 3 ∨ k.m = 4 ∨ k.m = 5 ∨ k.m = 6 ∨ k.m = 7 ∨ k.m = 8 ∨ k.m = 9 ∨ k.m = 10 := by omega
    unfold Kn.lc
    rcases this with e | e | e | e | e | e | e | e | e | e <;> rw [e] <;> decide
  have hr := h.room
  refine ⟨by omega, ⟨h.base0, by have := h.base1; omega⟩, ?_, ?_⟩
  · rcases h.lastOk with h1 | ⟨h1, _⟩
    · rcases h1 with h1 | h1 <;> omega
    · omega
  · intro i hi
    obtain ⟨p1, p2, p3⟩ := h.pairs i k.ps[i] (List.getElem?_eq_getElem hi)
    refine ⟨?_, by omega⟩
    rcases p1 with h1 | h1 <;> omega
def fpK (k : Kn) : ByteArray := dashI (str (jc 44 (k.ps.map pkT) k.ps.length))
def knT (k : Kn) : ByteArray := fmtS k.o k.l k.m ++ ⟨#[59]⟩ ++ str (Lib.itoa k.base) ++ ⟨#[59]⟩ ++ str (Lib.itoa k.last) ++ ⟨#[59]⟩ ++ fpK k
noncomputable instance (k : Kn) : Decidable k.Ok := Classical.propDecidable _
noncomputable def knV (k : Kn) : ByteArray := if k.Ok then knT k else ByteArray.empty
theorem pks_size {k : Kn} (h : k.Ok) : ∀ s ∈ k.ps.map pkT, s.size ≤ 21 := by
  intro s hs
  obtain ⟨p, hp, rfl⟩ := List.mem_map.1 hs
  obtain ⟨i, hi, rfl⟩ := List.mem_iff_getElem.1 hp
  have := (kn_bd h).2.2.2 i hi
  exact pkT_size this.1 this.2
theorem fpK_size {k : Kn} (h : k.Ok) : (fpK k).size ≤ 22 * 1022 := by
  have h1 := jc_len 44 (k.ps.map pkT) (pks_size h) k.ps.length (by simp)
  have h2 := (kn_bd h).1
  exact dashI_size (by rw [str_size]; omega) (by omega)
end Go.Proofs.YtmfnfheahehpcaaGreatDoor
