/- RebuildText in both programs, and what it asks for. No condition but that all is within the law's bulk. -/
import Derived.Test.YtlekjmgjnnljcaaYx
import Derived.Test.YtlekjmgjnnljcaaBa
import Derived.Lib.SliceRun
import Derived.Laws.AppendOwnNone
import Derived.Laws.BitsLemmas
import Derived.Laws.BitsAllLaws
import Derived.Deep.QuietTactic
import Derived.BigQuiet
namespace Go.Proofs.Ytlekjmgjnnljcaa
open Go.ChangeShapes Go.WideShapes Go.ChangeAt Go.RowKit Go.Joins
set_option linter.unusedVariables false
set_option linter.unusedSimpArgs false

theorem xs1_get (R : List UInt8) (T : ByteArray) (i : Nat) : (xs1 R T).getD i 0 = R.getD i 0 ^^^ byteAt T i := by
  by_cases h : i < max R.length T.size
  · have h2 : i < (pad R T.size).length := by rw [pad_len]; exact h
    have e1 : (pad R T.size).getD i 0 = R.getD i 0 := by
      unfold pad
      simp only [List.getD_eq_getElem?_getD, List.getElem?_append]
      split
      · rfl
      · rename_i h3
        rw [List.getElem?_replicate, List.getElem?_eq_none (l := R) (by omega)]
        split <;> rfl
    have e2 : (xs1 R T).getD i 0 = if i < T.size then (pad R T.size).getD i 0 ^^^ byteAt T i else (pad R T.size).getD i 0 := by
      simp only [xs1, xk, List.getD_eq_getElem?_getD, List.getElem?_map, List.getElem?_range h2, Option.map_some, Option.getD_some]
    rw [e2, e1]
    by_cases h3 : i < T.size
    · rw [if_pos h3]
    · rw [if_neg h3]
      have : byteAt T i = 0 := by unfold byteAt; rw [List.getD_eq_getElem?_getD, List.getElem?_eq_none (by simpa using h3)]; rfl
      rw [this]; simp
  · have e1 : (xs1 R T).getD i 0 = 0 := by rw [List.getD_eq_getElem?_getD, List.getElem?_eq_none (by rw [xs1_len]; omega)]; rfl
    have e2 : R.getD i 0 = 0 := by rw [List.getD_eq_getElem?_getD, List.getElem?_eq_none (by omega)]; rfl
    have e3 : byteAt T i = 0 := by unfold byteAt; rw [List.getD_eq_getElem?_getD, List.getElem?_eq_none (by simp; omega)]; rfl
    rw [e1, e2, e3]; rfl
theorem list_getD {a b : List UInt8} (hl : a.length = b.length) (h : ∀ i, a.getD i 0 = b.getD i 0) : a = b := by
  apply List.ext_getElem hl
  intro i h1 h2
  have := h i
  simpa [List.getD_eq_getElem?_getD, h1, h2] using this
theorem xs1_comm (R : List UInt8) (a b : ByteArray) : xs1 (xs1 R a) b = xs1 (xs1 R b) a := by
  apply list_getD
  · simp only [xs1_len]; omega
  · intro i
    simp only [xs1_get]
    rw [UInt8.xor_assoc, UInt8.xor_assoc, UInt8.xor_comm (byteAt a i)]
theorem fold_comm (l : List ByteArray) (R : List UInt8) (x : ByteArray) : l.foldl xs1 (xs1 R x) = xs1 (l.foldl xs1 R) x := by
  induction l generalizing R with
  | nil => rfl
  | cons y l ih => rw [List.foldl_cons, List.foldl_cons, xs1_comm, ih]
theorem xall_turn (l : List ByteArray) (x : ByteArray) : xall (x :: l) = xall (l ++ [x]) := by
  unfold xall
  rw [List.foldl_cons, fold_comm, List.foldl_append]; rfl
theorem fold_len (l : List ByteArray) (R : List UInt8) (n : Nat) (hR : R.length ≤ n) (h : ∀ s ∈ l, s.size ≤ n) : (l.foldl xs1 R).length ≤ n := by
  induction l generalizing R with
  | nil => exact hR
  | cons y l ih => exact ih _ (by rw [xs1_len]; have := h y (by simp); omega) (fun s hs => h s (by simp [hs]))
/-- the last one is as long as any -/
theorem xall_len (l : List ByteArray) (x : ByteArray) (h : ∀ s ∈ l, s.size ≤ x.size) : (xall (l ++ [x])).length = x.size := by
  unfold xall
  rw [List.foldl_append, List.foldl_cons, List.foldl_nil, xs1_len]
  have := fold_len l [] x.size (by simp) h
  omega

/-- two bytes of a number -/
def twoB (n : Nat) : ByteArray := str [UInt8.ofNat (n / 256), UInt8.ofNat n]
theorem twoB_size (n : Nat) : (twoB n).size = 2 := rfl
theorem run_twoB {P : Program} {e src dst : TypeId} (hs : P.underlying src = some (.slice e)) (he : P.underlying e = some (.int .u8)) (hd : P.underlying dst = some .string) (n : Nat) (w : World) :
    (convert src dst (.slice (some ⟨w.heap.size, 0, none⟩) 2 2)).run P (w.alloc (.cells #[.int .u8 ((n : Int) / 256 % 256), .int .u8 ((n : Int) % 256)] e)) = .ok (.string (twoB n)) (w.alloc (.cells #[.int .u8 ((n : Int) / 256 % 256), .int .u8 ((n : Int) % 256)] e)) := by
  refine run_convert_bytes_back (l := [UInt8.ofNat (n / 256), UInt8.ofNat n]) _ src dst e ⟨w.heap.size, 0, none⟩ 2 hs he hd ?_
  intro j hj
  have h0 : (((UInt8.ofNat (n / 256)).toNat : Nat) : Int) = (n : Int) / 256 % 256 := by rw [UInt8.toNat_ofNat']; omega
  have h1 : (((UInt8.ofNat n).toNat : Nat) : Int) = (n : Int) % 256 := by rw [UInt8.toNat_ofNat']; omega
  refine two_new w _ _ e j _ ?_
  match j, hj with
  | 0, _ => simp only [List.getElem_cons_zero, h0]; rfl
  | 1, _ => simp only [List.getElem_cons_succ, List.getElem_cons_zero, h1]; rfl

set_option maxRecDepth 100000 in
theorem c_l4TwoB (n : Nat) (w : World) (h : n ≤ 9223372036854775807) : Calls Try.prog 25 #[.int .i64 (n : Int)] w fun e w' => e = .returned (.string (twoB n)) ∧ Below w.heap.size w w' := by
  have hc := run_twoB Try.underlying22 Try.underlying5 Try.underlying9 n
  go_enter Try.func25, Try.ntmps25
  go_wp2
  go_ret
  exact ⟨rfl, by (repeat (first | with_reducible (first | assumption | exact Below.refl _ _ | refine bel_alloc ?_ _ | refine bel_drew ?_ | refine bel_drewN ?_ _ | refine bel_set ?_ (by first | omega | (simp; done) | (simp; omega)) _ | refine bel_trans ?_ (by assumption)) | assumption | refine bel_trans ?_ (by assumption)))⟩

set_option maxRecDepth 100000 in
theorem c_twoBytesB (n : Nat) (w : World) (h : n ≤ 9223372036854775807) : Calls Try.prog 35 #[.int .i64 (n : Int)] w fun e w' => e = .returned (.string (twoB n)) ∧ Below w.heap.size w w' := by
  have hc := run_twoB Try.underlying22 Try.underlying5 Try.underlying9 n
  go_enter Try.func35, Try.ntmps35
  go_wp2
  go_ret
  exact ⟨rfl, by (repeat (first | with_reducible (first | assumption | exact Below.refl _ _ | refine bel_alloc ?_ _ | refine bel_drew ?_ | refine bel_drewN ?_ _ | refine bel_set ?_ (by first | omega | (simp; done) | (simp; omega)) _ | refine bel_trans ?_ (by assumption)) | assumption | refine bel_trans ?_ (by assumption)))⟩

def lens (l : List ByteArray) : List ByteArray := l.map fun s => twoB s.size
theorem lens_len (l : List ByteArray) : (lens l).length = l.length := by simp [lens]
theorem lens_size (l : List ByteArray) : ∀ s ∈ lens l, s.size = 2 := by
  intro s hs
  obtain ⟨x, _, rfl⟩ := List.mem_map.1 hs
  rfl

/-- 'out = append(out, list...)' -/
theorem app_strs {P : Program} {w : World} {ops : Array Oper} {rest : List Oper} {o : Oper} {a : Act} {Q : Exit → Act → World → Prop} (hgd : o.guard = none) (s x : Operand) (t : TypeId)
    (ho : o.op = .call { callee := .builtin .append, args := #[s, x], argTypes := #[t, t] }) (B : Nat) (e : TypeId) (ht : P.underlying t = some (.slice e))
    (hinfo : (P.info? e).map (fun i => (i.zero, i.size, i.bytes)) = some (some (.string ByteArray.empty), 1, 16)) (v : Value) (n : Nat) (l : List ByteArray) (hs : a.eval s = v) (hown : w.ownsRow B e 1 v n (l.map sv)) (A : Option Addr) (cap L m : Nat) (ps : List ByteArray) (hA : StrsAt w L A cap ps) (hm : m = ps.length)
    (hx : a.eval x = .slice A m cap) (hn : n + ps.length ≤ 1000000000000) (hB : B ≤ w.heap.size)
    (h : ∀ v' w', w'.ownsRow B e 1 v' (n + ps.length) ((l ++ ps).map sv) → Below B w w' → w.grownBy w' v.ownBlock → wpList P ops Q rest (a.put o.dst v') w') : wpList P ops Q (o :: rest) a w := by
  subst hm
  obtain ⟨i0, hi, hz0, hz1, hz2⟩ := info_parts hinfo
  cases A with
  | none =>
    have hc := hA.2.2.1 rfl
    subst hc
    have h0 : ps = [] := List.length_eq_zero_iff.1 (by have := hA.1; omega)
    subst h0
    refine wpList_append_own_none hgd s x t ho B e i0 1 ht hi v n (l.map sv) hs hown hx ?_
    exact h v w (by simpa using hown) (Below.refl _ _) (grown_refl _ _)
  | some ad =>
    refine wpList_append_own _ hgd s x t ho B e i0 (.string ByteArray.empty) 1 16 ht hi hz0 hz1 hz2 rfl (by decide) v n (l.map sv) hs hown ad ps.length cap (ps.map sv) hx (by simp) ?_ (by intro u hu; simp at hu; obtain ⟨_, _, rfl⟩ := hu; rfl) (by unfold maxLen; omega) (by omega) hB ?_
    · intro j u hj
      have hjl := get_lt hj
      rw [svs_len] at hjl
      obtain ⟨b, off, e1, _, hc⟩ := hA.2.2.2 (by omega)
      simp at e1
      subst e1
      have hg : ps[j]? = some ps[j] := List.getElem?_eq_getElem hjl
      rw [List.getElem?_map, hg] at hj
      simp [sv] at hj
      subst hj
      have e2 : ((⟨b, off, none⟩ : Addr).add j) = ⟨b, off + j, none⟩ := by unfold Addr.add; split <;> simp_all
      rw [e2]
      exact hc _ _ hg
    · intro v' w' hown' hg _
      refine h v' w' ?_ (below_of_grown hg hB (fun g hg => (hown.lt g hg).1)) hg
      rw [List.map_append]; exact hown'

/-- 'slices.Clone' at strings -/
theorem c_CloneS (A : Option Addr) (cap L : Nat) (l : List ByteArray) (w : World) (h : StrsAt w L A cap l) (hL : L ≤ w.heap.size) (hn : l.length ≤ 1048576) : Calls Try.prog 24 #[.slice A l.length cap] w fun e w' => ∃ v, e = .returned v ∧ w'.ownsRow w.heap.size 9 1 v l.length (l.map sv) ∧ Below w.heap.size w w' := by
  have q22 : ∀ (w : World) (a : Option Addr) (n c n' c' : Nat), (binOp .eql 23 (.slice a n c) (.slice none n' c')).run Try.prog w = .ok (.bool a.isNone) w := fun w a n c n' c' => Go.Lib.run_eql_slice_nil w _ _ a n c n' c' Try.underlying23
  have HH := hid h
  cases A with
  | none =>
    have hc := h.2.2.1 rfl
    have h0 : l = [] := List.length_eq_zero_iff.1 (by have := h.1; omega)
    subst hc h0
    clear h
    go_enter Try.func24, Try.ntmps24
    go_wp2
    go_ret
    exact ⟨_, rfl, World.ownsRow_nil _ _ _ _, by (repeat (first | with_reducible (first | assumption | exact Below.refl _ _ | refine bel_alloc ?_ _ | refine bel_drew ?_ | refine bel_drewN ?_ _ | refine bel_set ?_ (by first | omega | (simp; done) | (simp; omega)) _ | refine bel_trans ?_ (by assumption)) | assumption | refine bel_trans ?_ (by assumption)))⟩
  | some a =>
    clear h
    go_enter Try.func24, Try.ntmps24
    go_wp2_with (at_builtin; refine app_strs rfl _ _ 23 rfl w.heap.size 9 Try.underlying23 Try.info_txt _ 0 [] rfl (World.ownsRow_made w #[] 0 (Nat.le_refl _) (Nat.zero_le _) rfl) (some a) cap L l.length l (HH.out.alloc hL _) rfl rfl (by omega) (by simp) ?_; intro v1 w1 hown1 hb1 hg1)
    go_ret
    exact ⟨_, rfl, by simpa using hown1, Below.trans (by (repeat (first | with_reducible (first | assumption | exact Below.refl _ _ | refine bel_alloc ?_ _ | refine bel_drew ?_ | refine bel_drewN ?_ _ | refine bel_set ?_ (by first | omega | (simp; done) | (simp; omega)) _ | refine bel_trans ?_ (by assumption)) | assumption | refine bel_trans ?_ (by assumption)))) hb1⟩

/-- the pair of bytes at the beginning as a number -/
def pairOf (m : List UInt8) : Nat := 256 * (m.getD 0 0).toNat + (m.getD 1 0).toNat

set_option maxRecDepth 100000 in
theorem c_l5PairB (m : List UInt8) (w : World) (h : m.length = 2) : Calls Try.prog 26 #[.string (str m)] w fun e w' => e = .returned (.int .i64 (pairOf m : Int)) ∧ Below w.heap.size w w' := by
  obtain ⟨a, b, rfl⟩ : ∃ a b, m = [a, b] := by
    match m, h with
    | [a, b], _ => exact ⟨a, b, rfl⟩
  obtain ⟨M, hM⟩ : ∃ M, M = str [a, b] := ⟨_, rfl⟩
  have hz : M.size = 2 := by rw [hM]; rfl
  have i0 : ∀ W, (Instr.index 9 (.string M) (.int .i64 0)).run Try.prog W = .ok (.int .u8 (a.toNat : Int)) W := fun W => by
    have := idx_text (P := Try.prog) Try.underlying9 M 0 (by omega) W
    exact this.trans (by subst hM; rfl)
  have i1 : ∀ W, (Instr.index 9 (.string M) (.int .i64 1)).run Try.prog W = .ok (.int .u8 (b.toNat : Int)) W := fun W => by
    have := idx_text (P := Try.prog) Try.underlying9 M 1 (by omega) W
    exact this.trans (by subst hM; rfl)
  have ha := UInt8.toNat_lt a
  have hb := UInt8.toNat_lt b
  have HR := hid (show ((pairOf [a, b] : Nat) : Int) = 256 * (a.toNat : Int) + (b.toNat : Int) by simp [pairOf])
  rw [← hM]
  clear hM
  have w1 : IntKind.i64.wrap (256 * (a.toNat : Int)) = 256 * (a.toNat : Int) := by rw [IntWalk.i64_in _ (by omega)]
  have w2 : IntKind.i64.wrap (256 * (a.toNat : Int) + (b.toNat : Int)) = 256 * (a.toNat : Int) + (b.toNat : Int) := by rw [IntWalk.i64_in _ (by omega)]
  go_enter Try.func26, Try.ntmps26
  go_wp2
  go_quiet (fail)
  go_wp2
  go_ret
  exact ⟨ret_int (by rw [HR.out]), by (repeat (first | with_reducible (first | assumption | exact Below.refl _ _ | refine bel_alloc ?_ _ | refine bel_drew ?_ | refine bel_drewN ?_ _ | refine bel_set ?_ (by first | omega | (simp; done) | (simp; omega)) _ | refine bel_trans ?_ (by assumption)) | assumption | refine bel_trans ?_ (by assumption)))⟩

def hdOf (p : ByteArray) : ByteArray := p.extract 0 2
def restOf (p : ByteArray) : ByteArray := p.extract 2 p.size
def mis (l : List ByteArray) (p : ByteArray) : List UInt8 := xall (lens l ++ [hdOf p])
def reb (l : List ByteArray) (p : ByteArray) : ByteArray × Bool :=
  if p.size < 2 ∨ 40 < l.length then (ByteArray.empty, false) else
  if (l.all fun s => decide (s.size + 2 ≤ p.size)) = false then (ByteArray.empty, false) else
  if p.size < pairOf (mis l p) + 2 then (ByteArray.empty, false) else (str ((xall (l ++ [restOf p])).take (pairOf (mis l p))), true)
theorem reb_1 {l : List ByteArray} {p : ByteArray} (h : p.size < 2 ∨ 40 < l.length) : reb l p = (ByteArray.empty, false) := by rw [reb, if_pos h]
theorem reb_2 {l : List ByteArray} {p : ByteArray} (h : ¬ (p.size < 2 ∨ 40 < l.length)) (i : Nat) (hi : i < l.length) (hs : p.size < l[i].size + 2) : reb l p = (ByteArray.empty, false) := by
  rw [reb, if_neg h, if_pos]
  rw [List.all_eq_false]
  exact ⟨l[i], List.getElem_mem hi, by simp; omega⟩
theorem all_fit {l : List ByteArray} {p : ByteArray} (hf : ∀ (i : Nat) (hi : i < l.length), l[i].size + 2 ≤ p.size) : (l.all fun s => decide (s.size + 2 ≤ p.size)) = true := by
  rw [List.all_eq_true]
  intro s hs
  obtain ⟨i, hi, rfl⟩ := List.getElem_of_mem hs
  simpa using hf i hi
theorem reb_3 {l : List ByteArray} {p : ByteArray} (h : ¬ (p.size < 2 ∨ 40 < l.length)) (hf : ∀ (i : Nat) (hi : i < l.length), l[i].size + 2 ≤ p.size) (hs : p.size < pairOf (mis l p) + 2) : reb l p = (ByteArray.empty, false) := by
  rw [reb, if_neg h, if_neg (by rw [all_fit hf]; simp), if_pos hs]
theorem reb_4 {l : List ByteArray} {p : ByteArray} (h : ¬ (p.size < 2 ∨ 40 < l.length)) (hf : ∀ (i : Nat) (hi : i < l.length), l[i].size + 2 ≤ p.size) (hs : ¬ p.size < pairOf (mis l p) + 2) : reb l p = (str ((xall (l ++ [restOf p])).take (pairOf (mis l p))), true) := by
  rw [reb, if_neg h, if_neg (by rw [all_fit hf]; simp), if_neg hs]
theorem mis_len {l : List ByteArray} {p : ByteArray} (h : 2 ≤ p.size) : (mis l p).length = 2 := by
  have hz : (hdOf p).size = 2 := by rw [hdOf, ByteArray.size_extract]; omega
  rw [mis, xall_len _ _ (by intro s hs; rw [lens_size l s hs, hz]; exact Nat.le_refl _), hz]
theorem out_len {l : List ByteArray} {p : ByteArray} (h : 2 ≤ p.size) (hf : ∀ (i : Nat) (hi : i < l.length), l[i].size + 2 ≤ p.size) : (xall (l ++ [restOf p])).length = p.size - 2 := by
  have hz : (restOf p).size = p.size - 2 := by rw [restOf, ByteArray.size_extract]; omega
  rw [xall_len _ _ (by intro s hs; obtain ⟨i, hi, rfl⟩ := List.getElem_of_mem hs; have := hf i hi; omega), hz]

theorem or_two (a b : UInt8) : bits .or .i64 (IntKind.i64.wrap ((a.toNat : Int) * 256)) (b.toNat : Int) = ((256 * a.toNat + b.toNat : Nat) : Int) := by
  have h1 := UInt8.toNat_lt a
  have h2 := UInt8.toNat_lt b
  have := (bits_nat .i64 63 (by decide) (fun n h0 h1 => IntWalk.i64_in n (by omega)) (a.toNat * 256) b.toNat (by omega) (by omega)).2
  have e : (a.toNat * 256 ||| b.toNat) = 256 * a.toNat + b.toNat := by
    rw [Nat.mul_comm, show (256 : Nat) = 2 ^ 8 from rfl, Nat.two_pow_add_eq_or_of_lt h2]
  rw [e] at this
  have e2 : IntKind.i64.wrap ((a.toNat : Int) * 256) = ((a.toNat * 256 : Nat) : Int) := by rw [IntWalk.i64_in _ (by omega)]; omega
  rw [e2]
  exact this

theorem own_strs_on {w w' : World} {B : Nat} {e : TypeId} {v : Value} {n : Nat} {xs : List Value} (h : w.ownsRow B e 1 v n xs) (hb : Below w.heap.size w w') : w'.ownsRow B e 1 v n xs :=
  h.kept (grown_below none hb) (by cases hv : v.ownBlock <;> simp)
theorem own_txt_any {w : World} {B : Nat} {e : TypeId} {G n cap : Nat} {l : List ByteArray} (h : w.ownsRow B e 1 (.slice (some ⟨G, 0, none⟩) n cap) n (l.map sv)) (k : Nat) (hk : k < n) : ∃ u, w.cell? ⟨G, k, none⟩ = some u := by
  have hl := own_slen h
  exact ⟨_, own_txt h k _ (List.getElem?_eq_getElem (by omega))⟩

theorem c_lengthsOf (A : Option Addr) (cap : Nat) (l : List ByteArray) (L : Nat) (w : World) (h : StrsAt w L A cap l) (hL : L ≤ w.heap.size) (hn : l.length ≤ 1048576) (hS : ∀ s ∈ l, s.size ≤ 1048576) : Calls Try.prog 23 #[.slice A l.length cap] w fun e w' => ∃ g, e = .returned (.slice (some ⟨g, 0, none⟩) l.length l.length) ∧ w'.ownsRow w.heap.size 9 1 (.slice (some ⟨g, 0, none⟩) l.length l.length) l.length ((lens l).map sv) ∧ Below w.heap.size w w' := by
  obtain ⟨N, hN⟩ : ∃ N, N = l.length := ⟨_, rfl⟩
  have HN := hid hN
  rw [← hN] at hn ⊢
  clear hN
  have hml := h.2.1
  have hml1 := h.1
  unfold maxLen at hml
  rw [← HN.out] at hml1
  go_enter Try.func23, Try.ntmps23
  go_wp2_with (at_make; refine make_strs rfl _ _ 23 rfl w.heap.size 9 Try.underlying23 Try.info_txt .i64 .i64 _ _ N rfl rfl (by omega) (by omega) (by omega) (Nat.le_refl _) ?_; intro w1 hown1 hb1 hg1)
  go_loopw [11] (fun i wr => ∃ k : Nat, k ≤ N ∧ i = .int .i64 k ∧ wr.ownsRow w.heap.size 9 1 (.slice (some ⟨w.heap.size, 0, none⟩) N N) N (((lens l).take k ++ List.replicate (N - k) ByteArray.empty).map sv) ∧ Below w.heap.size w wr) (fun i _ => N - (intOf i).toNat)
  case atStart => exact ⟨0, Nat.zero_le _, rfl, by simpa using hown1, by (repeat (first | with_reducible (first | assumption | exact Below.refl _ _ | refine bel_alloc ?_ _ | refine bel_drew ?_ | refine bel_drewN ?_ _ | refine bel_set ?_ (by first | omega | (simp; done) | (simp; omega)) _ | refine bel_trans ?_ (by assumption)) | assumption | refine bel_trans ?_ (by assumption)))⟩
  case round =>
    obtain ⟨k, hk, rfl, hown, hbl⟩ := hrel
    by_cases hlt : k < N
    · have hlt2 : k < l.length := by have := HN.out; omega
      have hlt3 : k < (lens l).length := by rw [lens_len]; exact hlt2
      obtain ⟨b, off, rfl, hb, hc0⟩ := txt_at (h.below hbl hL) k hlt2
      have hTs := hS _ (List.getElem_mem hlt2)
      obtain ⟨p, hp⟩ : ∃ p, p = l[k] := ⟨_, rfl⟩
      rw [← hp] at hc0 hTs
      have HP := hid (show (lens l)[k] = twoB p.size by simp [lens, hp])
      clear hp
      have HS := hid (show ((lens l).take k ++ List.replicate (N - k) ByteArray.empty).set k (twoB p.size) = (lens l).take (k + 1) ++ List.replicate (N - (k + 1)) ByteArray.empty by
        rw [set_done _ ((lens l).take k) ByteArray.empty N k _ rfl (by simp; omega) hlt, ← HP.out, List.take_succ_eq_append_getElem hlt3])
      have HO := hid hown
      clear hown
      go_wp2_with fail
      refine (c_twoBytesB p.size _ (by omega)).mono ?_
      rintro e w2 ⟨rfl, hb2⟩
      have hown2 := own_strs_on HO.out hb2
      have f0 := hown2.frozenAt k
      have c0 := hown2.lt w.heap.size rfl
      have hst := own_store_txt hown2 k (twoB p.size)
      rw [HS.out] at hst
      have HT := hid hst
      have hb3 := hbl.trans (hb2.mono hbl.size)
      have q0 := own_txt_any hown2 k hlt
      obtain ⟨u0, q0⟩ := q0
      clear hst hown2
      go_wp2
      go_roundw
      case rel => exact ⟨k + 1, by omega, by go_num, HT.out, by (repeat (first | with_reducible (first | assumption | exact Below.refl _ _ | refine bel_alloc ?_ _ | refine bel_drew ?_ | refine bel_drewN ?_ _ | refine bel_set ?_ (by first | omega | (simp; done) | (simp; omega)) _ | refine bel_trans ?_ (by assumption)) | assumption | refine bel_trans ?_ (by assumption)))⟩
      case measure => simp [intOf]; omega
    · have HD := hid (show (lens l).take k ++ List.replicate (N - k) ByteArray.empty = lens l by rw [show N - k = 0 from by omega, List.take_of_length_le (by rw [lens_len]; have := HN.out; omega)]; simp)
      rw [HD.out] at hown
      go_wp2
      go_ret
      exact ⟨_, rfl, hown, by (repeat (first | with_reducible (first | assumption | exact Below.refl _ _ | refine bel_alloc ?_ _ | refine bel_drew ?_ | refine bel_drewN ?_ _ | refine bel_set ?_ (by first | omega | (simp; done) | (simp; omega)) _ | refine bel_trans ?_ (by assumption)) | assumption | refine bel_trans ?_ (by assumption)))⟩
end Go.Proofs.Ytlekjmgjnnljcaa
