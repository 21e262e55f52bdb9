/- ParseBlock and l5Blocks in the model, by what stands at an index. -/
import Derived.Test.YtepbjmpbcobfpabDoorYg
import Derived.Test.YtepbjmpbcobfpabDoorYf
namespace Go.Proofs.YtepbjmpbcobfpabDoor
open Go.ChangeShapes Go.WideShapes Go.ChangeAt Go.RowKit Go.Joins
set_option linter.unusedVariables false
set_option linter.unusedSimpArgs false

theorem c_PB_some (S : ByteArray) (A : Nat) (T : List UInt8) (b : Bl) (w : World) (hS : S.size ≤ 1000000000000) (hA : A ≤ S.size) (hT : T = S.data.toList.drop A) (h : parse T = some b) : Calls Tryd.prog 5 #[.string S, .int .i64 (A : Int)] w fun e w' => e = .returned (.tuple #[.agg #[.int .i64 b.n, .bool b.raw, .int .i64 b.z, .string b.body], .int .i64 ((A : Int) + 10 + b.body.size), .bool true]) ∧ Below w.heap.size w w' := by
  obtain ⟨rfl, h1, h2, h3, h4⟩ := parse_some h
  exact c_ParseBlock_n7 S A T w hS hA hT (by omega) h1.2.1 h1.2.2.1 h2 h3 h4

theorem c_PB_none (S : ByteArray) (A : Nat) (T : List UInt8) (w : World) (hS : S.size ≤ 1000000000000) (hA : A ≤ S.size) (hT : T = S.data.toList.drop A) (h : parse T = none) : Calls Tryd.prog 5 #[.string S, .int .i64 (A : Int)] w fun e w' => e = .returned noPb ∧ Below w.heap.size w w' := by
  have hno := parse_none h
  by_cases h0 : T.length < 10
  · exact c_ParseBlock_n1 S A T w hS hA hT h0
  by_cases h1 : bat T 0 = 181
  · by_cases h2 : bat T 1 ≤ 1
    · by_cases h3 : T.length < 10 + pat2 T 6
      · exact c_ParseBlock_n4 S A T w hS hA hT (by omega) h1 h2 h3
      · by_cases h4 : (brd T).ok
        · by_cases h5 : (brd T).text = T.take (10 + pat2 T 6)
          · exact absurd ⟨pb_hd h1 h2 (by omega) h4, by omega, h4, h5⟩ hno
          · exact c_ParseBlock_n6 S A T w hS hA hT (by omega) h1 h2 (by omega) h4 h5
        · exact c_ParseBlock_n5 S A T w hS hA hT (by omega) h1 h2 (by omega) h4
    · exact c_ParseBlock_n3 S A T w hS hA hT (by omega) h1 (by omega)
  · exact c_ParseBlock_n2 S A T w hS hA hT (by omega) h1

/-- a whole reading is the only one -/
theorem Stop.whole {L : List UInt8} {bs cs : List Bl} (h : Stop L bs 0) (g : Rdg L cs) : cs = bs.take cs.length ∧ cs.length ≤ bs.length := by
  have hw : (txt bs).length = L.length := by
    rcases h.why with ⟨_, h1⟩ | ⟨_, h2⟩
    · exact h1
    · rcases h2 with ⟨h3, _⟩ | ⟨b, _, h3 | h3⟩
      · cases h3
      · cases h3.1
      · cases h3.1
  rcases Nat.lt_or_ge bs.length cs.length with hlt | hge
  · have e := h.brd.det g bs.length (Nat.le_refl _) (by omega)
    rw [List.take_length] at e
    have := txt_take_lt (bs := cs) (k := bs.length) (b := cs[bs.length]) (List.getElem?_eq_getElem hlt)
    rw [← e, hw] at this
    have := g.2.2
    omega
  · have e := h.brd.det g cs.length hge (Nat.le_refl _)
    rw [List.take_length] at e
    exact ⟨e.symm, hge⟩
theorem Stop.whole_at {L : List UInt8} {bs cs : List Bl} (h : Stop L bs 0) (g : Rdg L cs) (hlt : (txt cs).length < L.length) : ∃ b, parse (L.drop (txt cs).length) = some b ∧ b.n = (cs.length : Int) := by
  obtain ⟨e, hle⟩ := h.whole g
  have hw : (txt bs).length = L.length := by
    rcases h.why with ⟨_, h1⟩ | ⟨_, h2⟩
    · exact h1
    · rcases h2 with ⟨h3, _⟩ | ⟨b, _, h3 | h3⟩
      · cases h3
      · cases h3.1
      · cases h3.1
  have hl : cs.length < bs.length := by
    rcases Nat.lt_or_ge cs.length bs.length with h1 | h1
    · exact h1
    · rw [List.take_of_length_le h1] at e; rw [e] at hlt; omega
  refine ⟨bs[cs.length], ?_, (h.brd.1 cs.length bs[cs.length] (List.getElem?_eq_getElem hl)).2⟩
  have := h.brd.at_ (k := cs.length) (List.getElem?_eq_getElem hl)
  rw [← e] at this
  exact this
theorem Stop.whole_eq {L : List UInt8} {bs cs : List Bl} (h : Stop L bs 0) (g : Rdg L cs) (hlt : (txt cs).length = L.length) : cs = bs := by
  obtain ⟨e, hle⟩ := h.whole g
  rcases Nat.lt_or_ge cs.length bs.length with h1 | h1
  · have := txt_take_lt (bs := bs) (k := cs.length) (b := bs[cs.length]) (List.getElem?_eq_getElem h1)
    rw [← e] at this
    have := h.brd.2.2
    omega
  · rw [e, List.take_of_length_le h1]

theorem zs_bd (bs : List Bl) (h : ∀ b ∈ bs, b.z ≤ 64) : zs bs ≤ 64 * bs.length := by
  induction bs with
  | nil => simp [zs]
  | cons b l ih =>
    have h1 := h b (by simp)
    have h2 := ih (fun x hx => h x (by simp [hx]))
    simp only [zs, List.length_cons]
    omega
theorem Rdg.zs_le {L : List UInt8} {bs : List Bl} (h : Rdg L bs) : zs bs ≤ 2560 := by
  have h1 := h.len_le
  have h2 := zs_bd bs (fun b hb => by
    obtain ⟨i, hi, rfl⟩ := List.getElem_of_mem hb
    have := (h.1 i bs[i] (List.getElem?_eq_getElem hi)).1.2.1
    omega)
  omega
theorem own_bls0 (W : World) (B : Nat) (hB : B ≤ W.heap.size) : (W.alloc (.cells #[] 23)).ownsRow B 23 4 (.slice (some ⟨W.heap.size, 0, none⟩) 0 0) 0 (bvs []) := World.ownsRow_made (e := 23) (size := 4) (base := B) W #[] 0 hB (by simp) (by simp [maxLen])
end Go.Proofs.YtepbjmpbcobfpabDoor
