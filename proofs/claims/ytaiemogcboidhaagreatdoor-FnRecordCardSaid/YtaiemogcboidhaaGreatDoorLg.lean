/- The text of an operation and its fields. Mathematics. -/
import Derived.Test.YtaiemogcboidhaaGreatDoorLe
import Derived.Test.YtaiemogcboidhaaGreatDoorKf
namespace Go.Proofs.YtaiemogcboidhaaGreatDoor
open Go.ChangeShapes Go.WideShapes Go.ChangeAt Go.RowKit Go.Joins
set_option linter.unusedVariables false
set_option linter.unusedSimpArgs false

/-- the word of a kind -/
def wdOf (k : Int) : ByteArray := if k = 0 then ⟨#[112, 117, 116]⟩ else if k = 1 then ⟨#[97, 112, 112, 101, 110, 100]⟩ else if k = 2 then ⟨#[114, 101, 112, 108, 97, 99, 101]⟩ else if k = 3 then ⟨#[109, 101, 114, 103, 101]⟩ else ⟨#[100, 101, 108, 101, 116, 101]⟩
/-- what stands behind the word -/
def opF (k : Int) (nm : ByteArray) (f t z : Int) (d : ByteArray) : List ByteArray :=
  if k = 0 ∨ k = 1 then [nm, str (dec z), dashI (str (M.fmtHex d.data.toList))]
  else if k = 2 then [nm, str (dec f), str (dec t), str (dec z), dashI (str (M.fmtHex d.data.toList))]
  else if k = 3 then [nm, str (dec z)] else [nm]
theorem opF_len {k : Int} {nm : ByteArray} {f t z : Int} {d : ByteArray} : (opF k nm f t z d).length ≤ 5 := by
  unfold opF; split
  · simp
  · split
    · simp
    · split <;> simp
theorem nm_no32 {nm : ByteArray} (h : nmB nm = true) : ∀ x ∈ nm.data.toList, x ≠ (32 : UInt8) := by
  unfold nmB at h
  rw [Bool.and_eq_true] at h
  intro x hx e
  have := List.all_eq_true.1 h.1 x hx
  subst e
  exact absurd this (by decide)
theorem opB_nm {k : Int} {nm : ByteArray} {f t z : Int} {d : ByteArray} (h : opB k nm f t z d = true) : nmB nm = true := (of_decide_eq_true h).2.1
theorem opB_rest {k : Int} {nm : ByteArray} {f t z : Int} {d : ByteArray} (h : opB k nm f t z d = true) : (k ≠ 2 → f = 0 ∧ t = 0) ∧ (k = 4 → z = 0) ∧ (¬ k < 3 → d = ⟨#[]⟩) := by
  obtain ⟨_, _, ⟨h1, h2, h3, h4⟩, _⟩ := of_decide_eq_true h
  refine ⟨fun e => ?_, fun e => ?_, fun e => ?_⟩
  · rw [decide_eq_false e] at h1 h2
    exact ⟨h1, h2⟩
  · subst e; exact h3
  · rw [decide_eq_false e] at h4
    exact h4
theorem wd_no32 (k : Int) : ∀ x ∈ (wdOf k).data.toList, x ≠ (32 : UInt8) := by
  unfold wdOf
  split
  · decide
  · split
    · decide
    · split
      · decide
      · split <;> decide
theorem opF_no32 {k : Int} {nm : ByteArray} {f t z : Int} {d : ByteArray} (hnm : nmB nm = true) : ∀ x ∈ opF k nm f t z d, ∀ c ∈ x.data.toList, c ≠ (32 : UInt8) := by
  intro x hx
  unfold opF at hx
  split at hx
  · simp only [List.mem_cons, List.not_mem_nil, or_false] at hx
    rcases hx with rfl | rfl | rfl
    · exact nm_no32 hnm
    · exact dec_no32 z
    · exact dashH_no32 d
  · split at hx
    · simp only [List.mem_cons, List.not_mem_nil, or_false] at hx
      rcases hx with rfl | rfl | rfl | rfl | rfl
      · exact nm_no32 hnm
      · exact dec_no32 f
      · exact dec_no32 t
      · exact dec_no32 z
      · exact dashH_no32 d
    · split at hx
      · simp only [List.mem_cons, List.not_mem_nil, or_false] at hx
        rcases hx with rfl | rfl
        · exact nm_no32 hnm
        · exact dec_no32 z
      · simp only [List.mem_cons, List.not_mem_nil, or_false] at hx
        subst hx
        exact nm_no32 hnm
theorem opT_join {k : Int} {nm : ByteArray} {f t z : Int} {d : ByteArray} (hk : 0 ≤ k ∧ k < 5) : (opTx k nm f t z d).data.toList = joinL 32 ((wdOf k :: opF k nm f t z d).map (·.data.toList)) := by
  have hC : k = 0 ∨ k = 1 ∨ k = 2 ∨ k = 3 ∨ k = 4 := by omega
  rcases hC with rfl | rfl | rfl | rfl | rfl <;> simp [opTx, opF, wdOf, endT, joinL]

/-- a row of texts is the fields of this text, if the text is an operation's -/
def OPl (T : ByteArray) (l : List ByteArray) : Prop := ∀ k nm f t z d, opB k nm f t z d = true → opTx k nm f t z d = T → l = wdOf k :: opF k nm f t z d
theorem opl_free {k : Int} {nm : ByteArray} {f t z : Int} {d : ByteArray} (h : opB k nm f t z d = true) : ∀ x ∈ wdOf k :: opF k nm f t z d, ∀ c ∈ x.data.toList, c ≠ (32 : UInt8) := by
  intro x hx
  rcases List.mem_cons.1 hx with rfl | hx
  · exact wd_no32 k
  · exact opF_no32 (opB_nm h) x hx
theorem opl_cut {T : ByteArray} {l : List ByteArray} (h : CutAs 32 7 T l) : OPl T l := fun k nm f t z d hv hT =>
  h (wdOf k :: opF k nm f t z d) (by simp) (by have := opF_len (k := k) (nm := nm) (f := f) (t := t) (z := z) (d := d); simp; omega) (opl_free hv) (by rw [← hT]; exact opT_join (opB_facts hv).1)
theorem opl_cutL {T : ByteArray} {l : List ByteArray} (h : l.map (·.data.toList) = cutL 32 T.data.toList) : OPl T l := fun k nm f t z d hv hT => by
  refine bytes_back ?_
  rw [h, ← hT, opT_join (opB_facts hv).1]
  refine cutL_join 32 _ (by simp) ?_
  intro g hg x hx
  obtain ⟨y, hy, rfl⟩ := List.mem_map.1 hg
  exact opl_free hv y hy x hx

/-- a place of a row, empty beyond its end -/
def gx (l : List ByteArray) (i : Nat) : ByteArray := l.getD i ⟨#[]⟩
/-- an operation read from what stands behind its word -/
def OpRd (k : Int) (l : List ByteArray) (nm : ByteArray) (f t z : Int) (d : ByteArray) : Prop :=
  nm = gx l 0 ∧ (if k = 2 then NumOf (gx l 1) f ∧ NumOf (gx l 2) t else f = 0 ∧ t = 0) ∧ (if k = 4 then z = 0 else NumOf (gx l (if k = 2 then 3 else 1)) z) ∧ (if k < 3 then DatOf (gx l (if k = 2 then 4 else 2)) d else d = ⟨#[]⟩)
theorem num_dec {n : Int} (h0 : 0 ≤ n) : NumOf (str (dec n)) n := fun k a0 a1 e => by
  have e9 := congrArg (fun x : ByteArray => valL x.data.toList) e
  simp only [str_list] at e9
  unfold dec at e9
  rw [val_dec, val_dec] at e9
  omega
theorem dat_dec {d : ByteArray} (hd : d.size ≤ 4000) : DatOf (dashI (str (M.fmtHex d.data.toList))) d := ⟨hd, fun d2 h2 e => by
  have r1 := und_dash d2 h2
  rw [← e, und_dash d hd] at r1
  injection r1 with r1
  exact ByteArray.ext (Array.toList_inj.1 r1)⟩
theorem oprd_self {k : Int} {nm : ByteArray} {f t z : Int} {d : ByteArray} (h : opB k nm f t z d = true) : OpRd k (opF k nm f t z d) nm f t z d := by
  obtain ⟨hk, _, hz, hf, ht, hd⟩ := opB_facts h
  obtain ⟨r1, r2, r3⟩ := opB_rest h
  have hC : k = 0 ∨ k = 1 ∨ k = 2 ∨ k = 3 ∨ k = 4 := by omega
  rcases hC with rfl | rfl | rfl | rfl | rfl
  · exact ⟨rfl, r1 (by decide), num_dec hz.1, dat_dec (by omega)⟩
  · exact ⟨rfl, r1 (by decide), num_dec hz.1, dat_dec (by omega)⟩
  · exact ⟨rfl, ⟨num_dec hf.1, num_dec ht.1⟩, num_dec hz.1, dat_dec (by omega)⟩
  · exact ⟨rfl, r1 (by decide), num_dec hz.1, r3 (by decide)⟩
  · exact ⟨rfl, r1 (by decide), r2 rfl, r3 (by decide)⟩
theorem oprd_one {k : Int} {nm nm2 : ByteArray} {f t z f2 t2 z2 : Int} {d d2 : ByteArray} (h : opB k nm f t z d = true) (h2 : OpRd k (opF k nm f t z d) nm2 f2 t2 z2 d2) : nm2 = nm ∧ f2 = f ∧ t2 = t ∧ z2 = z ∧ d2 = d := by
  obtain ⟨hk, _, hz, hf, ht, hd⟩ := opB_facts h
  obtain ⟨r1, r2, r3⟩ := opB_rest h
  obtain ⟨q0, q1, q2, q3⟩ := h2
  have hC : k = 0 ∨ k = 1 ∨ k = 2 ∨ k = 3 ∨ k = 4 := by omega
  rcases hC with rfl | rfl | rfl | rfl | rfl
  · exact ⟨q0, q1.1.trans (r1 (by decide)).1.symm, q1.2.trans (r1 (by decide)).2.symm, q2 z (by omega) (by omega) rfl, q3.2 d (by omega) rfl⟩
  · exact ⟨q0, q1.1.trans (r1 (by decide)).1.symm, q1.2.trans (r1 (by decide)).2.symm, q2 z (by omega) (by omega) rfl, q3.2 d (by omega) rfl⟩
  · exact ⟨q0, q1.1 f (by omega) (by omega) rfl, q1.2 t (by omega) (by omega) rfl, q2 z (by omega) (by omega) rfl, q3.2 d (by omega) rfl⟩
  · exact ⟨q0, q1.1.trans (r1 (by decide)).1.symm, q1.2.trans (r1 (by decide)).2.symm, q2 z (by omega) (by omega) rfl, q3.trans (r3 (by decide)).symm⟩
  · exact ⟨q0, q1.1.trans (r1 (by decide)).1.symm, q1.2.trans (r1 (by decide)).2.symm, q2.trans (r2 rfl).symm, q3.trans (r3 (by decide)).symm⟩
theorem wd_inj {a b : Int} (ha : 0 ≤ a ∧ a < 5) (hb : 0 ≤ b ∧ b < 5) (h : wdOf a = wdOf b) : a = b := by
  have hA : a = 0 ∨ a = 1 ∨ a = 2 ∨ a = 3 ∨ a = 4 := by omega
  have hB : b = 0 ∨ b = 1 ∨ b = 2 ∨ b = 3 ∨ b = 4 := by omega
  rcases hA with rfl | rfl | rfl | rfl | rfl <;> rcases hB with rfl | rfl | rfl | rfl | rfl <;> first | rfl | exact absurd (congrArg (fun x : ByteArray => x.data.toList) h) (by decide)

/-- what ParseOp returns: an operation of this text, or none -/
def opV (k : Int) (nm : ByteArray) (f t z : Int) (d : ByteArray) (b : Bool) : Ending := .returned (.tuple #[.agg #[.int .i64 k, .string nm, .int .i64 f, .int .i64 t, .int .i64 z, .string d], .bool b])
def POp (T : ByteArray) (e : Ending) : Prop :=
  (∃ k nm f t z d, opB k nm f t z d = true ∧ opTx k nm f t z d = T ∧ e = opV k nm f t z d true) ∨ ((∀ k nm f t z d, opB k nm f t z d = true → opTx k nm f t z d = T → False) ∧ e = opV 0 ⟨#[]⟩ 0 0 0 ⟨#[]⟩ false)
theorem pop_word {T : ByteArray} {l : List ByteArray} (h : OPl T l) (hn : ∀ k, 0 ≤ k → k < 5 → gx l 0 ≠ wdOf k) : POp T (opV 0 ⟨#[]⟩ 0 0 0 ⟨#[]⟩ false) :=
  .inr ⟨fun k nm f t z d hv hT => hn k (opB_facts hv).1.1 (opB_facts hv).1.2 (by rw [h k nm f t z d hv hT]; rfl), rfl⟩
theorem pop_len {T : ByteArray} {l : List ByteArray} {k : Int} (hk : 0 ≤ k ∧ k < 5) (h : OPl T l) (hw : gx l 0 = wdOf k) (hn : l.length ≠ (if k = 0 ∨ k = 1 then 4 else if k = 2 then 6 else if k = 3 then 3 else 2)) : POp T (opV 0 ⟨#[]⟩ 0 0 0 ⟨#[]⟩ false) :=
  .inr ⟨fun k2 nm f t z d hv hT => by
    have hl := h k2 nm f t z d hv hT
    have e : k = k2 := wd_inj hk (opB_facts hv).1 (by rw [← hw, hl]; rfl)
    subst e
    refine hn ?_
    rw [hl]
    unfold opF
    split
    · rfl
    · split
      · rfl
      · split <;> rfl, rfl⟩
theorem pop_no {T : ByteArray} {l : List ByteArray} {k : Int} {nm : ByteArray} {f t z : Int} {d : ByteArray} (hk : 0 ≤ k ∧ k < 5) (h : OPl T l) (hw : gx l 0 = wdOf k) (hr : OpRd k l.tail nm f t z d) (hne : ¬ opT k nm f t z d = T) : POp T (opV 0 ⟨#[]⟩ 0 0 0 ⟨#[]⟩ false) :=
  .inr ⟨fun k2 nm2 f2 t2 z2 d2 hv hT => by
    have hl := h k2 nm2 f2 t2 z2 d2 hv hT
    have e : k = k2 := wd_inj hk (opB_facts hv).1 (by rw [← hw, hl]; rfl)
    subst e
    rw [hl] at hr
    obtain ⟨rfl, rfl, rfl, rfl, rfl⟩ := oprd_one hv hr
    exact hne (by rw [show opT k nm f t z d = opTx k nm f t z d from if_pos hv]; exact hT), rfl⟩
theorem pop_yes {T : ByteArray} {k : Int} {nm : ByteArray} {f t z : Int} {d : ByteArray} (hT0 : ¬ T = ByteArray.empty) (he : opT k nm f t z d = T) : POp T (opV k nm f t z d true) := by
  refine .inl ⟨k, nm, f, t, z, d, ?_, ?_, rfl⟩
  · by_cases h : opB k nm f t z d = true
    · exact h
    · exact absurd (by rw [← he, opT, if_neg h]) hT0
  · by_cases h : opB k nm f t z d = true
    · rw [← he, opT, if_pos h]
    · exact absurd (by rw [← he, opT, if_neg h]) hT0
theorem pop_one {T : ByteArray} {e e2 : Ending} (h : POp T e) (h2 : POp T e2) : e = e2 := by
  rcases h with ⟨k, nm, f, t, z, d, hv, hT, rfl⟩ | ⟨hn, rfl⟩
  · rcases h2 with ⟨k2, nm2, f2, t2, z2, d2, hv2, hT2, rfl⟩ | ⟨hn, rfl⟩
    · have e1 := opT_join (f := f) (t := t) (z := z) (d := d) (nm := nm) (opB_facts hv).1
      have e2 := opT_join (f := f2) (t := t2) (z := z2) (d := d2) (nm := nm2) (opB_facts hv2).1
      have cut : ∀ {k nm f t z d}, opB k nm f t z d = true → cutL 32 (joinL 32 ((wdOf k :: opF k nm f t z d).map (·.data.toList))) = (wdOf k :: opF k nm f t z d).map (·.data.toList) := by
        intro k nm f t z d hv
        refine cutL_join 32 _ (by simp) ?_
        intro g hg x hx
        obtain ⟨y, hy, rfl⟩ := List.mem_map.1 hg
        exact opl_free hv y hy x hx
      have c1 := cut hv
      rw [← e1, hT, ← hT2, e2, cut hv2] at c1
      have c2 := bytes_back c1
      injection c2 with c3 c4
      have ek := wd_inj (opB_facts hv2).1 (opB_facts hv).1 c3
      subst ek
      have hs := oprd_self hv2
      rw [c4] at hs
      obtain ⟨rfl, rfl, rfl, rfl, rfl⟩ := oprd_one hv hs
      rfl
    · exact (hn k nm f t z d hv hT).elim
  · rcases h2 with ⟨k2, nm2, f2, t2, z2, d2, hv2, hT2, rfl⟩ | ⟨_, rfl⟩
    · exact (hn k2 nm2 f2 t2 z2 d2 hv2 hT2).elim
    · rfl
theorem pop_ex (T : ByteArray) : ∃ k nm f t z d b, ∀ e, POp T e → e = opV k nm f t z d b := by
  by_cases hx : ∃ k nm f t z d, opB k nm f t z d = true ∧ opTx k nm f t z d = T
  · obtain ⟨k, nm, f, t, z, d, hv, hT⟩ := hx
    exact ⟨k, nm, f, t, z, d, true, fun e h => pop_one h (.inl ⟨k, nm, f, t, z, d, hv, hT, rfl⟩)⟩
  · exact ⟨0, ⟨#[]⟩, 0, 0, 0, ⟨#[]⟩, false, fun e h => pop_one h (.inr ⟨fun k nm f t z d hv hT => hx ⟨k, nm, f, t, z, d, hv, hT⟩, rfl⟩)⟩
end Go.Proofs.YtaiemogcboidhaaGreatDoor
