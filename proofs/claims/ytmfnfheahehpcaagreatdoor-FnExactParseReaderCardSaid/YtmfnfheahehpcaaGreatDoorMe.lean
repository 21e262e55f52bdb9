/- The text of a reader and its fields. Mathematics. -/
import Derived.Test.YtmfnfheahehpcaaGreatDoorFg
import Derived.Test.YtmfnfheahehpcaaGreatDoorRi
namespace Go.Proofs.YtmfnfheahehpcaaGreatDoor
open Go.ChangeShapes Go.WideShapes Go.ChangeAt Go.RowKit Go.Joins
set_option linter.unusedVariables false
set_option linter.unusedSimpArgs false

def rdF (k : Kn) (B : ByteArray) (s c en : Int) : List ByteArray := [knT k, dashI B, str (Lib.itoa s), str (Lib.itoa c), str (Lib.itoa en)]
theorem rdT_join (k : Kn) (B : ByteArray) (s c en : Int) : (rdT k B s c en).data.toList = joinL 124 ((rdF k B s c en).map (·.data.toList)) := by
  have e : (⟨#[124]⟩ : ByteArray).data.toList = [124] := rfl
  simp only [rdT, rdF, ByteArray.data_append, Array.toList_append, List.map_cons, List.map_nil, joinL, e]
  simp
theorem fmtS_no124 {o l m : Int} (h : setOk o l m = true) : ∀ x ∈ (fmtS o l m).data.toList, x ≠ (124 : UInt8) := by
  rw [fmtS, h, if_pos rfl, str_list, fmtL]
  intro x hx
  simp only [List.mem_append, List.mem_cons, List.not_mem_nil, or_false] at hx
  rcases hx with (((hx | rfl) | hx) | rfl) | hx
  · unfold ordL at hx
    split at hx <;> (simp only [List.mem_cons, List.not_mem_nil, or_false] at hx; rcases hx with rfl | rfl | rfl | rfl <;> decide)
  · decide
  · exact dec_noC 124 (.inr (by decide)) l x hx
  · decide
  · exact dec_noC 124 (.inr (by decide)) m x hx
theorem knT_no124 {k : Kn} (h : k.Ok) : ∀ x ∈ (knT k).data.toList, x ≠ (124 : UInt8) := by
  have hb := kn_bd h
  rw [knT_join]
  intro x hx
  rcases mem_join 59 _ x hx with rfl | ⟨f, hf, hx⟩
  · decide
  · obtain ⟨y, hy, rfl⟩ := List.mem_map.1 hf
    simp only [knF, List.mem_cons, List.not_mem_nil, or_false] at hy
    rcases hy with rfl | rfl | rfl | rfl
    · exact fmtS_no124 h.set x hx
    · rw [str_list] at hx; exact itoa_noC 124 (by decide) (by omega) x hx
    · rw [str_list] at hx; exact itoa_noC 124 (by decide) (by omega) x hx
    · rw [fpK_pr] at hx; exact prT_noC 124 (by decide) k.ps x hx
theorem dash_no124 {B : ByteArray} (h : bitsOk B = true) : ∀ x ∈ (dashI B).data.toList, x ≠ (124 : UInt8) := by
  have ha := bitsOk_all h
  unfold dashI
  split
  · intro x hx
    rw [str_list] at hx
    simp at hx; subst hx; decide
  · intro x hx e
    have := List.all_eq_true.1 ha x hx
    subst e
    exact absurd this (by decide)
theorem rd_bits {k : Kn} {B : ByteArray} {s c en : Int} (h : rdOk k B s c en = true) : bitsOk B = true := by
  unfold rdOk at h
  rw [Bool.and_eq_true] at h
  exact h.1
theorem rdF_no {k : Kn} {B : ByteArray} {s c en : Int} (hk : k.Ok) (h : rdOk k B s c en = true) : ∀ f ∈ rdF k B s c en, ∀ x ∈ f.data.toList, x ≠ (124 : UInt8) := by
  have hb := rd_bd h
  intro f hf
  simp only [rdF, List.mem_cons, List.not_mem_nil, or_false] at hf
  rcases hf with rfl | rfl | rfl | rfl | rfl
  · exact knT_no124 hk
  · exact dash_no124 (rd_bits h)
  · rw [str_list]; exact itoa_noC 124 (by decide) (by omega)
  · rw [str_list]; exact itoa_noC 124 (by decide) (by omega)
  · rw [str_list]; exact itoa_noC 124 (by decide) (by omega)
def RdFl (T : ByteArray) (l : List ByteArray) : Prop := ∀ k B s c en, k.Ok → rdOk k B s c en = true → rdT k B s c en = T → l = rdF k B s c en
theorem rdfl_cut {T : ByteArray} {l : List ByteArray} (h : CutAs 124 6 T l) : RdFl T l := fun k B s c en hk hr hT =>
  h (rdF k B s c en) (by simp [rdF]) (by simp [rdF]) (rdF_no hk hr) (by rw [← hT]; exact rdT_join k B s c en)
theorem rdfl_cutL {T : ByteArray} {l : List ByteArray} (h : l.map (·.data.toList) = cutL 124 T.data.toList) : RdFl T l := fun k B s c en hk hr hT => by
  refine bytes_back ?_
  rw [h, ← hT, rdT_join]
  refine cutL_join 124 _ (by simp [rdF]) ?_
  intro g hg x hx
  obtain ⟨y, hy, rfl⟩ := List.mem_map.1 hg
  exact rdF_no hk hr y hy x hx
def KnIs (x : ByteArray) (k : Kn) : Prop := ∀ k2 : Kn, k2.Ok → knT k2 = x → k = k2
theorem kn_is {x : ByteArray} {k : Kn} {b : Bool} (h : PKn x k b) : KnIs x k := by
  rcases h with ⟨_, _, _, hu⟩ | ⟨_, _, hn⟩
  · exact hu
  · exact fun k2 hk hT => (hn k2 hk hT).elim
theorem pkn_wf {x : ByteArray} {k : Kn} {b : Bool} (h : PKn x k b) : k.Wf := by
  rcases h with ⟨_, hk, _, _⟩ | ⟨_, rfl, _⟩
  · obtain ⟨h1, h2, h3, h4⟩ := kn_bd hk
    refine ⟨fun i p hi => ?_, by omega, by omega, by omega⟩
    have hlt := (List.getElem?_eq_some_iff.1 hi).1
    have := h4 i hlt
    rw [(List.getElem?_eq_some_iff.1 hi).2] at this
    omega
  · exact ⟨fun i p hi => by simp [kn0] at hi, by simp [kn0], by simp [kn0], by simp [kn0]⟩
def BtOf (x B : ByteArray) : Prop := ∀ B2, bitsOk B2 = true → dashI B2 = x → B = B2
theorem bt_of (x : ByteArray) : BtOf x (undI x) := fun B h e => by
  subst e
  have ha := bitsOk_all h
  by_cases hz : B.size = 0
  · rw [dashI, if_pos hz, undI, if_pos rfl]
    exact (size_zeroI hz).symm
  · rw [dashI, if_neg hz, undI]
    rw [if_neg]
    intro e
    rw [e, str_list] at ha
    exact absurd ha (by decide)
def RdIs (T : ByteArray) (k : Kn) (B : ByteArray) (s c en : Int) : Prop := ∀ k2 B2 s2 c2 e2, k2.Ok → rdOk k2 B2 s2 c2 e2 = true → rdT k2 B2 s2 c2 e2 = T → k = k2 ∧ B = B2 ∧ s = s2 ∧ c = c2 ∧ en = e2
theorem rd_is {T x0 x1 x2 x3 x4 : ByteArray} {k : Kn} {B : ByteArray} {s c en : Int} (h : RdFl T [x0, x1, x2, x3, x4]) (h0 : KnIs x0 k) (h1 : BtOf x1 B) (h2 : NumN x2 s) (h3 : NumN x3 c) (h4 : NumN x4 en) : RdIs T k B s c en := fun k2 B2 s2 c2 e2 hk hr hT => by
  have e := h k2 B2 s2 c2 e2 hk hr hT
  simp only [rdF, List.cons.injEq, and_true] at e
  obtain ⟨rfl, rfl, rfl, rfl, rfl⟩ := e
  have hb := rd_bd hr
  exact ⟨h0 k2 hk rfl, h1 B2 (rd_bits hr) rfl, h2 s2 (by omega) (by omega) rfl, h3 c2 (by omega) (by omega) rfl, h4 e2 (by omega) (by omega) rfl⟩
noncomputable def rdV (k : Kn) (B : ByteArray) (s c en : Int) : ByteArray := if k.Ok ∧ rdOk k B s c en = true then rdT k B s c en else ByteArray.empty
/-- what ParseReader returns -/
def PRd (T : ByteArray) (k : Kn) (B : ByteArray) (s c en : Int) (b : Bool) : Prop := (b = true ∧ (k.Ok ∧ rdOk k B s c en = true) ∧ rdT k B s c en = T ∧ RdIs T k B s c en) ∨ ((b = false ∧ k = kn0 ∧ B = ⟨#[]⟩ ∧ s = 0 ∧ c = 0 ∧ en = 0) ∧ ∀ k2 B2 s2 c2 e2, k2.Ok → rdOk k2 B2 s2 c2 e2 = true → rdT k2 B2 s2 c2 e2 = T → False)
theorem prd_len {T : ByteArray} {l : List ByteArray} (h : RdFl T l) (hl : l.length ≠ 5) : PRd T kn0 ⟨#[]⟩ 0 0 0 false := .inr ⟨⟨rfl, rfl, rfl, rfl, rfl, rfl⟩, fun k B s c en hk hr hT => hl (by rw [h k B s c en hk hr hT]; rfl)⟩
theorem prd_yes {T : ByteArray} {k : Kn} {B : ByteArray} {s c en : Int} (h0 : ¬ T = ByteArray.empty) (hu : RdIs T k B s c en) (he : rdV k B s c en = T) : PRd T k B s c en true := by
  by_cases h : k.Ok ∧ rdOk k B s c en = true
  · rw [rdV, if_pos h] at he
    exact .inl ⟨rfl, h, he, hu⟩
  · rw [rdV, if_neg h] at he
    exact absurd he.symm h0
theorem prd_no {T : ByteArray} {k : Kn} {B : ByteArray} {s c en : Int} (hu : RdIs T k B s c en) (he : ¬ rdV k B s c en = T) : PRd T kn0 ⟨#[]⟩ 0 0 0 false := .inr ⟨⟨rfl, rfl, rfl, rfl, rfl, rfl⟩, fun k2 B2 s2 c2 e2 hk hr hT => by
  obtain ⟨rfl, rfl, rfl, rfl, rfl⟩ := hu k2 B2 s2 c2 e2 hk hr hT
  exact he (by rw [rdV, if_pos ⟨hk, hr⟩]; exact hT)⟩
theorem prd_ex (T : ByteArray) : ∃ (R : Kn) (B : ByteArray) (s c en : Int) (b : Bool), R.ps.length ≤ 1048576 ∧ ∀ k B' s' c' e' b', PRd T k B' s' c' e' b' → k = R ∧ B' = B ∧ s' = s ∧ c' = c ∧ e' = en ∧ b' = b := by
  by_cases hx : ∃ k B s c en, k.Ok ∧ rdOk k B s c en = true ∧ rdT k B s c en = T
  · obtain ⟨k, B, s, c, en, hk, hr, hT⟩ := hx
    refine ⟨k, B, s, c, en, true, by have := (kn_bd hk).1; omega, fun k2 B2 s2 c2 e2 b2 h => ?_⟩
    rcases h with ⟨rfl, _, _, hu⟩ | ⟨_, hn⟩
    · obtain ⟨rfl, rfl, rfl, rfl, rfl⟩ := hu k B s c en hk hr hT
      exact ⟨rfl, rfl, rfl, rfl, rfl, rfl⟩
    · exact (hn k B s c en hk hr hT).elim
  · refine ⟨kn0, ⟨#[]⟩, 0, 0, 0, false, by simp [kn0], fun k2 B2 s2 c2 e2 b2 h => ?_⟩
    rcases h with ⟨_, ho, hT, _⟩ | ⟨⟨rfl, rfl, rfl, rfl, rfl, rfl⟩, _⟩
    · exact (hx ⟨k2, B2, s2, c2, e2, ho.1, ho.2, hT⟩).elim
    · exact ⟨rfl, rfl, rfl, rfl, rfl, rfl⟩
theorem c_FormatReader_any (k : Kn) (A : Option Addr) (cap L : Nat) (B : ByteArray) (s c en : Int) (w : World) (h : PsAt w L A cap k.ps) (hL : L ≤ w.heap.size) (hB : B.size ≤ maxLen) (hw : k.Wf) (hen : -9223372036854775808 ≤ en ∧ en ≤ 9223372036854775807) (hTab : TabN w) : Calls Tryz.prog 54 #[.agg #[.int .i64 k.o, .int .i64 k.l, .int .i64 k.m, .slice A k.ps.length cap, .int .i64 k.base, .int .i64 k.last, .string B, .int .i64 s, .int .i64 c, .int .i64 en]] w fun e w' => e = .returned (.string (rdV k B s c en)) ∧ Below w.heap.size w w' := by
  by_cases hk : k.Ok ∧ rdOk k B s c en = true
  · rw [rdV, if_pos hk]; exact c_FormatReader_yes k A cap L B s c en w h hL hB hw hen hk.1 hk.2 hTab
  · rw [rdV, if_neg hk]; exact c_FormatReader_no k A cap L B s c en w h hL hB hw hen hk
theorem c_sFormatReader_any (k : Kn) (A : Option Addr) (cap L : Nat) (B : ByteArray) (s c en : Int) (w : World) (h : PsAt w L A cap k.ps) (hL : L ≤ w.heap.size) (hB : B.size ≤ maxLen) (hw : k.Wf) (hen : -9223372036854775808 ≤ en ∧ en ≤ 9223372036854775807) : Calls Tryz.prog 52 #[.agg #[.int .i64 k.o, .int .i64 k.l, .int .i64 k.m, .slice A k.ps.length cap, .int .i64 k.base, .int .i64 k.last, .string B, .int .i64 s, .int .i64 c, .int .i64 en]] w fun e w' => e = .returned (.string (rdV k B s c en)) ∧ Below w.heap.size w w' := by
  by_cases hk : k.Ok ∧ rdOk k B s c en = true
  · rw [rdV, if_pos hk]; exact c_sFormatReader_yes k A cap L B s c en w h hL hB hw hen hk.1 hk.2
  · rw [rdV, if_neg hk]; exact c_sFormatReader_no k A cap L B s c en w h hL hB hw hen hk
end Go.Proofs.YtmfnfheahehpcaaGreatDoor
