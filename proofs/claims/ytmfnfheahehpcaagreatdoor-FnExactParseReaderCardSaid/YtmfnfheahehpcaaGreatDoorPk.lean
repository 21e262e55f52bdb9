/- The text of what is known and its fields. Mathematics. -/
import Derived.Test.YtmfnfheahehpcaaGreatDoorFe
import Derived.Test.YtmfnfheahehpcaaGreatDoorLc
import Derived.Test.YtmfnfheahehpcaaGreatDoorPj
namespace Go.Proofs.YtmfnfheahehpcaaGreatDoor
open Go.ChangeShapes Go.WideShapes Go.ChangeAt Go.RowKit Go.Joins
set_option linter.unusedVariables false
set_option linter.unusedSimpArgs false

theorem joinL_eqC (c : UInt8) (l : List (List UInt8)) : Lib.join l [c] = joinL c l := by
  induction l with
  | nil => rfl
  | cons x r ih =>
    cases r with
    | nil => rw [Lib.join_one]; rfl
    | cons y q =>
      rw [joinL, ← ih, Lib.join_cons, Lib.join_cons]
      simp [Lib.joinTail]
/-- the fields of the text of what is known -/
def knF (k : Kn) : List ByteArray := [fmtS k.o k.l k.m, str (Lib.itoa k.base), str (Lib.itoa k.last), fpK k]
theorem knT_join (k : Kn) : (knT k).data.toList = joinL 59 ((knF k).map (·.data.toList)) := by
  have e : (⟨#[59]⟩ : ByteArray).data.toList = [59] := rfl
  simp only [knT, knF, ByteArray.data_append, Array.toList_append, List.map_cons, List.map_nil, joinL, e]
  simp
theorem dec_noC (c : UInt8) (hc : c.toNat < 48 ∨ 57 < c.toNat) (n : Int) : ∀ x ∈ dec n, x ≠ c := by
  intro x hx e
  have := dig_dec _ x hx
  subst e
  omega
theorem itoa_noC (c : UInt8) (hc : 57 < c.toNat) {n : Int} (h : -1 ≤ n) : ∀ x ∈ Lib.itoa n, x ≠ c := by
  by_cases h0 : 0 ≤ n
  · rw [itoa_dec n h0]; exact dec_noC c (.inr hc) n
  · have : n = -1 := by omega
    subst this
    have e2 : Lib.itoa (-1) = [45, 49] := by unfold Lib.itoa; rw [if_pos (by omega), show (-1 : Int).natAbs = 1 from rfl, decD_small (by omega)]; rfl
    rw [e2]
    intro x hx e
    subst e
    simp only [List.mem_cons, List.not_mem_nil, or_false] at hx
    rcases hx with rfl | rfl <;> exact absurd hc (by decide)
theorem pkT_list (p : Pr) : (pkT p).data.toList = dec p.1 ++ 46 :: dec p.2 := by
  have : (⟨#[46]⟩ : ByteArray).data.toList = [46] := rfl
  simp [pkT, str_list, this]
theorem pkT_noC (c : UInt8) (hc : c.toNat < 46 ∨ 57 < c.toNat) (p : Pr) : ∀ x ∈ (pkT p).data.toList, x ≠ c := by
  rw [pkT_list]
  intro x hx
  rcases List.mem_append.1 hx with hx | hx
  · exact dec_noC c (by omega) p.1 x hx
  · rcases List.mem_cons.1 hx with rfl | hx
    · intro e; subst e; exact absurd hc (by decide)
    · exact dec_noC c (by omega) p.2 x hx
theorem mem_join (c : UInt8) (l : List (List UInt8)) : ∀ x ∈ joinL c l, x = c ∨ ∃ f ∈ l, x ∈ f := by
  induction l with
  | nil => intro x hx; simp [joinL] at hx
  | cons a r ih =>
    cases r with
    | nil => intro x hx; exact .inr ⟨a, by simp, by simpa [joinL] using hx⟩
    | cons b q =>
      intro x hx
      rw [joinL] at hx
      rcases List.mem_append.1 hx with hx | hx
      · exact .inr ⟨a, by simp, hx⟩
      · rcases List.mem_cons.1 hx with rfl | hx
        · exact .inl rfl
        · rcases ih x hx with h | ⟨f, hf, hx⟩
          · exact .inl h
          · exact .inr ⟨f, by simp [hf], hx⟩
/-- the text of pairs -/
def prT (ps : List Pr) : ByteArray := dashI (str (jc 44 (ps.map pkT) ps.length))
theorem fpK_pr (k : Kn) : fpK k = prT k.ps := rfl
theorem jc_pairs (ps : List Pr) : jc 44 (ps.map pkT) ps.length = joinL 44 ((ps.map pkT).map (·.data.toList)) := by
  have := jc_join 44 (ps.map pkT) ps.length (by simp)
  rw [this, joinL_eqC, List.take_of_length_le (by simp)]
theorem pair_dot {ps : List Pr} (h : 0 < ps.length) : (46 : UInt8) ∈ joinL 44 ((ps.map pkT).map (·.data.toList)) := by
  cases ps with
  | nil => simp at h
  | cons p r =>
    have h3 : (46 : UInt8) ∈ (pkT p).data.toList := by rw [pkT_list]; simp
    cases r with
    | nil => simpa [joinL] using h3
    | cons q t => simp only [List.map_cons, joinL]; exact List.mem_append_left _ h3
theorem prT_join {ps : List Pr} (h : 0 < ps.length) : (prT ps).data.toList = joinL 44 ((ps.map pkT).map (·.data.toList)) := by
  have hz : ¬ (str (jc 44 (ps.map pkT) ps.length)).size = 0 := by
    rw [str_size, jc_pairs]
    intro h0
    have h1 : joinL 44 ((ps.map pkT).map (·.data.toList)) = [] := List.length_eq_zero_iff.1 h0
    have h2 := pair_dot h
    rw [h1] at h2
    simp at h2
  rw [prT, dashI, if_neg hz, str_list, jc_pairs]
theorem prT_nil : prT [] = str [45] := rfl
theorem prT_noC (c : UInt8) (hc : 57 < c.toNat) (ps : List Pr) : ∀ x ∈ (prT ps).data.toList, x ≠ c := by
  intro x hx e
  subst e
  by_cases h : 0 < ps.length
  · rw [prT_join h] at hx
    rcases mem_join 44 _ x hx with rfl | ⟨f, hf, hx⟩
    · exact absurd hc (by decide)
    · obtain ⟨y, hy, rfl⟩ := List.mem_map.1 hf
      obtain ⟨p, -, rfl⟩ := List.mem_map.1 hy
      exact pkT_noC x (.inr hc) p x hx rfl
  · have : ps = [] := List.length_eq_zero_iff.1 (by omega)
    subst this
    rw [prT_nil, str_list] at hx
    simp at hx
    subst hx
    exact absurd hc (by decide)
theorem prT_dash {ps : List Pr} (h : prT ps = str [45]) : ps = [] := by
  by_cases h0 : 0 < ps.length
  · have e := prT_join h0
    have h2 := pair_dot h0
    rw [← e, h, str_list] at h2
    simp at h2
  · exact List.length_eq_zero_iff.1 (by omega)
theorem fmtS_noC {o l m : Int} (h : setOk o l m = true) : ∀ x ∈ (fmtS o l m).data.toList, x ≠ (59 : UInt8) := by
  rw [fmtS, h, if_pos rfl, str_list, fmtL]
  intro x hx
  simp only [List.mem_append, List.mem_cons, List.not_mem_nil, or_false] at hx
  rcases hx with (((hx | rfl) | hx) | rfl) | hx
  · unfold ordL at hx
    split at hx <;> (simp only [List.mem_cons, List.not_mem_nil, or_false] at hx; rcases hx with rfl | rfl | rfl | rfl <;> decide)
  · decide
  · exact dec_noC 59 (.inr (by decide)) l x hx
  · decide
  · exact dec_noC 59 (.inr (by decide)) m x hx
theorem knF_no {k : Kn} (h : k.Ok) : ∀ f ∈ knF k, ∀ x ∈ f.data.toList, x ≠ (59 : UInt8) := by
  have hb := kn_bd h
  intro f hf
  simp only [knF, List.mem_cons, List.not_mem_nil, or_false] at hf
  rcases hf with rfl | rfl | rfl | rfl
  · exact fmtS_noC h.set
  · rw [str_list]; exact itoa_noC 59 (by decide) (by omega)
  · rw [str_list]; exact itoa_noC 59 (by decide) (by omega)
  · rw [fpK_pr]; exact prT_noC 59 (by decide) k.ps
/-- a row of texts is the fields of this text, if it is a text of what is known -/
def KnFl (T : ByteArray) (l : List ByteArray) : Prop := ∀ k : Kn, k.Ok → knT k = T → l = knF k
theorem knfl_cut {T : ByteArray} {l : List ByteArray} (h : CutAs 59 5 T l) : KnFl T l := fun k hk hT =>
  h (knF k) (by simp [knF]) (by simp [knF]) (knF_no hk) (by rw [← hT]; exact knT_join k)
theorem knfl_cutL {T : ByteArray} {l : List ByteArray} (h : l.map (·.data.toList) = cutL 59 T.data.toList) : KnFl T l := fun k hk hT => by
  refine bytes_back ?_
  rw [h, ← hT, knT_join]
  refine cutL_join 59 _ (by simp [knF]) ?_
  intro g hg x hx
  obtain ⟨y, hy, rfl⟩ := List.mem_map.1 hg
  exact knF_no hk y hy x hx

/-- a setting, a number, pairs read from texts: if the text is one's, this one -/
def SetOf (x : ByteArray) (o l m : Int) : Prop := ∀ o' l' m' : Int, setOk o' l' m' = true → fmtS o' l' m' = x → o = o' ∧ l = l' ∧ m = m'
def NumN (x : ByteArray) (n : Int) : Prop := ∀ k : Int, -1 ≤ k → k ≤ 1000000 → x = str (Lib.itoa k) → n = k
def PrOf (x : ByteArray) (q : List Pr) : Prop := ∀ ps : List Pr, (∀ p ∈ ps, (0 ≤ p.1 ∧ p.1 ≤ 4000) ∧ (0 ≤ p.2 ∧ p.2 ≤ 2000)) → prT ps = x → q = ps
def KnOf (T : ByteArray) (k : Kn) : Prop := ∀ k2 : Kn, k2.Ok → knT k2 = T → k = k2
theorem kn_pairs {k : Kn} (h : k.Ok) : ∀ p ∈ k.ps, (0 ≤ p.1 ∧ p.1 ≤ 4000) ∧ (0 ≤ p.2 ∧ p.2 ≤ 2000) := by
  intro p hp
  obtain ⟨i, hi, rfl⟩ := List.mem_iff_getElem.1 hp
  exact (kn_bd h).2.2.2 i hi
theorem kn_of {T a b c d : ByteArray} {o l m u v : Int} {q : List Pr} (h : KnFl T [a, b, c, d]) (hs : SetOf a o l m) (hb : NumN b u) (hc : NumN c v) (hd : PrOf d q) : KnOf T ⟨o, l, m, q, u, v⟩ := fun k hk hT => by
  have e := h k hk hT
  simp only [knF, List.cons.injEq, and_true] at e
  obtain ⟨rfl, rfl, rfl, rfl⟩ := e
  have hbd := kn_bd hk
  obtain ⟨rfl, rfl, rfl⟩ := hs k.o k.l k.m hk.set rfl
  have e1 := hb k.base (by omega) (by omega) rfl
  have e2 := hc k.last (by omega) (by omega) rfl
  have e3 := hd k.ps (kn_pairs hk) rfl
  rw [e1, e2, e3]
def kn0 : Kn := ⟨0, 0, 0, [], 0, 0⟩
/-- what ParseKnown returns -/
def PKn (T : ByteArray) (k : Kn) (b : Bool) : Prop := (b = true ∧ k.Ok ∧ knT k = T ∧ KnOf T k) ∨ (b = false ∧ k = kn0 ∧ ∀ k2 : Kn, k2.Ok → knT k2 = T → False)
theorem pkn_one {T : ByteArray} {k k2 : Kn} {b b2 : Bool} (h : PKn T k b) (h2 : PKn T k2 b2) : k = k2 ∧ b = b2 := by
  rcases h with ⟨rfl, ho, hT, hu⟩ | ⟨rfl, rfl, hn⟩
  · rcases h2 with ⟨rfl, ho2, hT2, _⟩ | ⟨rfl, rfl, hn⟩
    · exact ⟨hu k2 ho2 hT2, rfl⟩
    · exact (hn k ho hT).elim
  · rcases h2 with ⟨rfl, ho2, hT2, _⟩ | ⟨rfl, rfl, _⟩
    · exact (hn k2 ho2 hT2).elim
    · exact ⟨rfl, rfl⟩
theorem pkn_len {T : ByteArray} {l : List ByteArray} (h : KnFl T l) (hl : l.length ≠ 4) : PKn T kn0 false := .inr ⟨rfl, rfl, fun k hk hT => hl (by rw [h k hk hT]; rfl)⟩
theorem pkn_yes {T : ByteArray} {k : Kn} (h0 : ¬ T = ByteArray.empty) (hu : KnOf T k) (he : knV k = T) : PKn T k true := by
  by_cases h : k.Ok
  · rw [knV, if_pos h] at he
    exact .inl ⟨rfl, h, he, hu⟩
  · rw [knV, if_neg h] at he
    exact absurd he.symm h0
theorem pkn_no {T : ByteArray} {k : Kn} (hu : KnOf T k) (he : ¬ knV k = T) : PKn T kn0 false := .inr ⟨rfl, rfl, fun k2 hk hT => by
  have e := hu k2 hk hT
  subst e
  exact he (by rw [knV, if_pos hk]; exact hT)⟩
/-- a pair read from a text -/
def PkOf (x : ByteArray) (q : Pr) : Prop := ∀ p : Pr, (0 ≤ p.1 ∧ p.1 ≤ 4000) → (0 ≤ p.2 ∧ p.2 ≤ 2000) → x = pkT p → q = p
def PksOf (l : List ByteArray) (q : List Pr) : Prop := q.length ≤ l.length ∧ ∀ i p, q[i]? = some p → PkOf (l.getD i ⟨#[]⟩) p
theorem PksOf.nil (l : List ByteArray) : PksOf l [] := ⟨Nat.zero_le _, fun i p h => by simp at h⟩
theorem PksOf.snoc {l : List ByteArray} {q : List Pr} (h : PksOf l q) (hl : q.length < l.length) (p : Pr) (hp : PkOf l[q.length] p) : PksOf l (q ++ [p]) := by
  refine ⟨by simp; omega, fun i u hu => ?_⟩
  by_cases hi : i < q.length
  · rw [List.getElem?_append_left hi] at hu
    exact h.2 i u hu
  · rw [List.getElem?_append_right (by omega)] at hu
    have : i = q.length := by
      have := (List.getElem?_eq_some_iff.1 hu).1
      simp at this; omega
    subst this
    simp at hu
    subst hu
    rw [List.getD_eq_getElem?_getD, List.getElem?_eq_getElem hl]
    exact hp
/-- a row of texts is the pairs of this text, if it is one of pairs and no dash -/
def PrFl (x : ByteArray) (l : List ByteArray) : Prop := ∀ ps : List Pr, 0 < ps.length → prT ps = x → l = ps.map pkT
theorem prfl_cutL {x : ByteArray} {l : List ByteArray} (h : l.map (·.data.toList) = cutL 44 x.data.toList) : PrFl x l := fun ps h0 hT => by
  refine bytes_back ?_
  rw [h, ← hT, prT_join h0]
  refine cutL_join 44 _ (by intro e; rw [List.map_eq_nil_iff, List.map_eq_nil_iff] at e; rw [e] at h0; simp at h0) ?_
  intro g hg x hx
  obtain ⟨y, hy, rfl⟩ := List.mem_map.1 hg
  obtain ⟨p, -, rfl⟩ := List.mem_map.1 hy
  exact pkT_noC 44 (.inl (by decide)) p x hx
theorem pr_of {x : ByteArray} {l : List ByteArray} {q : List Pr} (hd : ¬ x = str [45]) (h : PrFl x l) (hq : PksOf l q) (hlen : q.length = l.length) : PrOf x q := fun ps hb hT => by
  have h0 : 0 < ps.length := by
    rcases Nat.eq_zero_or_pos ps.length with h0 | h0
    · have : ps = [] := List.length_eq_zero_iff.1 h0
      subst this
      exact absurd (hT.symm.trans prT_nil) hd
    · exact h0
  have hl := h ps h0 hT
  have hn : ps.length = q.length := by rw [hlen, hl]; simp
  apply List.ext_getElem (by omega)
  intro i h1 h2
  have h3 := hq.2 i q[i] (List.getElem?_eq_getElem h1)
  have hbp := hb ps[i] (List.getElem_mem _)
  refine h3 ps[i] hbp.1 hbp.2 ?_
  rw [hl, List.getD_eq_getElem?_getD, List.getElem?_map, List.getElem?_eq_getElem h2]
  rfl
theorem pr_dash : PrOf (str [45]) [] := fun ps _ h => (prT_dash h).symm
theorem itoa_m1 : Lib.itoa (-1) = [45, 49] := by unfold Lib.itoa; rw [if_pos (by omega), show (-1 : Int).natAbs = 1 from rfl, decD_small (by omega)]; rfl
theorem atoi_itoa {k : Int} (h0 : -1 ≤ k) (h1 : k ≤ 1000000) : Lib.atoiAll (Lib.itoa k) = .ok k := by
  by_cases h : 0 ≤ k
  · rw [itoa_dec k h]; exact atoi_decI k h (by omega)
  · have : k = -1 := by omega
    subst this
    rw [itoa_m1]
    decide +kernel
theorem itoa_pos {k : Int} (h0 : -1 ≤ k) : (Lib.itoa k).length ≠ 0 := by
  by_cases h : 0 ≤ k
  · rw [itoa_dec k h]
    intro e
    have := (dec_facts (k := k) rfl).1
    rw [str_size] at this
    exact this e
  · have : k = -1 := by omega
    subst this
    rw [itoa_m1]
    decide
theorem index_dot (p : Pr) : Lib.cut (pkT p).data.toList [46] = (dec p.1, dec p.2, true) := by
  have hi := index_hit 46 (dec p.2) (dec p.1) (dec_noC 46 (.inl (by decide)) p.1)
  rw [pkT_list, Lib.cut, hi, if_pos (by omega), Int.toNat_natCast]
  have e1 : List.take (dec p.1).length (dec p.1 ++ 46 :: dec p.2) = dec p.1 := by simp
  have e2 : List.drop ((dec p.1).length + [(46 : UInt8)].length) (dec p.1 ++ 46 :: dec p.2) = dec p.2 := by
    rw [List.length_singleton, List.drop_append, List.drop_of_length_le (by omega)]
    simp
  rw [e1, e2]
end Go.Proofs.YtmfnfheahehpcaaGreatDoor
