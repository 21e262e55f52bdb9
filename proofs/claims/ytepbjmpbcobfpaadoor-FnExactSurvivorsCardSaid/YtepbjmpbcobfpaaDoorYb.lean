/- ParseBlock and l5Blocks in the model, by what stands at an index. -/
import Derived.Test.YtepbjmpbcobfpaaDoorYg
import Derived.Test.YtepbjmpbcobfpaaDoorYf
namespace Go.Proofs.YtepbjmpbcobfpaaDoor
open Go.ChangeShapes Go.WideShapes Go.ChangeAt Go.RowKit Go.Joins
set_option linter.unusedVariables false
set_option linter.unusedSimpArgs false

theorem c_PB_some (S : ByteArray) (A : Nat) (T : List UInt8) (b : Bl) (w : World) (hS : S.size ≤ 1000000000000) (hA : A ≤ S.size) (hT : T = S.data.toList.drop A) (h : parse T = some b) : Calls Tryd.prog 19 #[.string S, .int .i64 (A : Int)] w fun e w' => e = .returned (.tuple #[.agg #[.int .i64 b.n, .bool b.raw, .int .i64 b.z, .string b.body], .int .i64 ((A : Int) + 10 + b.body.size), .bool true]) ∧ Below w.heap.size w w' := by
  obtain ⟨rfl, h1, h2, h3, h4⟩ := parse_some h
  exact c_ParseBlock_n7 S A T w hS hA hT (by omega) h1.2.1 h1.2.2.1 h2 h3 h4

theorem c_PB_none (S : ByteArray) (A : Nat) (T : List UInt8) (w : World) (hS : S.size ≤ 1000000000000) (hA : A ≤ S.size) (hT : T = S.data.toList.drop A) (h : parse T = none) : Calls Tryd.prog 19 #[.string S, .int .i64 (A : Int)] w fun e w' => e = .returned noPb ∧ Below w.heap.size w w' := by
  have hno := parse_none h
  by_cases h0 : T.length < 10
  · exact c_ParseBlock_n1 S A T w hS hA hT h0
  by_cases h1 : bat T 0 = 181
  · by_cases h2 : bat T 1 ≤ 1
    · by_cases h3 : T.length < 10 + pat2 T 6
      · exact c_ParseBlock_n4 S A T w hS hA hT (by omega) h1 h2 h3
      · by_cases h4 : (brd T).ok
        · by_cases h5 : (brd T).text = T.take (10 + pat2 T 6)
          · exact absurd ⟨pb_hd h1 h2 (by omega) h4, by omega, h4, h5⟩ hno
          · exact c_ParseBlock_n6 S A T w hS hA hT (by omega) h1 h2 (by omega) h4 h5
        · exact c_ParseBlock_n5 S A T w hS hA hT (by omega) h1 h2 (by omega) h4
    · exact c_ParseBlock_n3 S A T w hS hA hT (by omega) h1 (by omega)
  · exact c_ParseBlock_n2 S A T w hS hA hT (by omega) h1

/-- a whole reading is the only one -/
theorem Stop.whole {L : List UInt8} {bs cs : List Bl} (h : Stop L bs 0) (g : Rdg L cs) : cs = bs.take cs.length ∧ cs.length ≤ bs.length := by
  have hw : (txt bs).length = L.length := by
    rcases h.why with ⟨_, h1⟩ | ⟨_, h2⟩
    · exact h1
    · rcases h2 with ⟨h3, _⟩ | ⟨b, _, h3 | h3⟩
      · cases h3
      · cases h3.1
      · cases h3.1
  rcases Nat.lt_or_ge bs.length cs.length with hlt | hge
  · have e := h.brd.det g bs.length (Nat.le_refl _) (by omega)
    rw [List.take_length] at e
    have := txt_take_lt (bs := cs) (k := bs.length) (b := cs[bs.length]) (List.getElem?_eq_getElem hlt)
    rw [← e, hw] at this
    have := g.2.2
    omega
  · have e := h.brd.det g cs.length hge (Nat.le_refl _)
    rw [List.take_length] at e
    exact ⟨e.symm, hge⟩
theorem Stop.whole_at {L : List UInt8} {bs cs : List Bl} (h : Stop L bs 0) (g : Rdg L cs) (hlt : (txt cs).length < L.length) : ∃ b, parse (L.drop (txt cs).length) = some b ∧ b.n = (cs.length : Int) := by
  obtain ⟨e, hle⟩ := h.whole g
  have hw : (txt bs).length = L.length := by
    rcases h.why with ⟨_, h1⟩ | ⟨_, h2⟩
    · exact h1
    · rcases h2 with ⟨h3, _⟩ | ⟨b, _, h3 | h3⟩
      · cases h3
      · cases h3.1
      · cases h3.1
  have hl : cs.length < bs.length := by
    rcases Nat.lt_or_ge cs.length bs.length with h1 | h1
    · exact h1
    · rw [List.take_of_length_le h1] at e; rw [e] at hlt; omega
  refine ⟨bs[cs.length], ?_, (h.brd.1 cs.length bs[cs.length] (List.getElem?_eq_getElem hl)).2⟩
  have := h.brd.at_ (k := cs.length) (List.getElem?_eq_getElem hl)
  rw [← e] at this
  exact this
theorem Stop.whole_eq {L : List UInt8} {bs cs : List Bl} (h : Stop L bs 0) (g : Rdg L cs) (hlt : (txt cs).length = L.length) : cs = bs := by
  obtain ⟨e, hle⟩ := h.whole g
  rcases Nat.lt_or_ge cs.length bs.length with h1 | h1
  · have := txt_take_lt (bs := bs) (k := cs.length) (b := bs[cs.length]) (List.getElem?_eq_getElem h1)
    rw [← e] at this
    have := h.brd.2.2
    omega
  · rw [e, List.take_of_length_le h1]

theorem zs_bd (bs : List Bl) (h : ∀ b ∈ bs, b.z ≤ 64) : zs bs ≤ 64 * bs.length := by
  induction bs with
  | nil => simp [zs]
  | cons b l ih =>
    have h1 := h b (by simp)
    have h2 := ih (fun x hx => h x (by simp [hx]))
    simp only [zs, List.length_cons]
    omega
theorem Rdg.zs_le {L : List UInt8} {bs : List Bl} (h : Rdg L bs) : zs bs ≤ 2560 := by
  have h1 := h.len_le
  have h2 := zs_bd bs (fun b hb => by
    obtain ⟨i, hi, rfl⟩ := List.getElem_of_mem hb
    have := (h.1 i bs[i] (List.getElem?_eq_getElem hi)).1.2.1
    omega)
  omega
theorem own_bls0 (W : World) (B : Nat) (hB : B ≤ W.heap.size) : (W.alloc (.cells #[] 35)).ownsRow B 35 4 (.slice (some ⟨W.heap.size, 0, none⟩) 0 0) 0 (bvs []) := World.ownsRow_made (e := 35) (size := 4) (base := B) W #[] 0 hB (by simp) (by simp [maxLen])

set_option maxHeartbeats 4000000 in
set_option maxRecDepth 100000 in
theorem c_l5Blocks (S : ByteArray) (L : List UInt8) (bs : List Bl) (c : Nat) (w : World) (hS : S.size ≤ 1000000000000) (hL : L = S.data.toList) (hst : Stop L bs c) : Calls Tryd.prog 24 #[.string S] w fun e w' => ∃ v, e = .returned (.tuple #[v, .bool (decide (c = 0))]) ∧ w'.ownsRow w.heap.size 35 4 v (if c = 0 then bs else []).length (bvs (if c = 0 then bs else [])) ∧ Below w.heap.size w w' := by
  have hLl : L.length = S.size := by rw [hL]; simp
  have HST := hid hst
  have HLL := hid hLl
  have HLS := hid hL
  have HE := hid (own_bls0 w w.heap.size (Nat.le_refl _))
  clear hst hLl hL
  go_enter Tryd.func24, Tryd.ntmps24
  go_wp2_with fail
  go_loopw [4, 5, 6] (fun v s i wr => ∃ cs : List Bl, Hid (Rdg L cs) ∧ s = .int .i64 ((zs cs : Nat) : Int) ∧ i = .int .i64 (((txt cs).length : Nat) : Int) ∧ wr.ownsRow w.heap.size 35 4 v cs.length (bvs cs) ∧ Below w.heap.size w wr) (fun _ _ i _ => S.size - (intOf i).toNat)
  case atStart => exact ⟨[], hid (Rdg.nil _), rfl, rfl, HE.out, by (repeat (first | with_reducible (first | assumption | exact Below.refl _ _ | refine bel_alloc ?_ _ | refine bel_drew ?_ | refine bel_drewN ?_ _ | refine bel_set ?_ (by first | omega | (simp; done) | (simp; omega)) _ | refine bel_trans ?_ (by assumption)) | assumption | refine bel_trans ?_ (by assumption)))⟩
  case round =>
    obtain ⟨cs, HR, rfl, rfl, hown, hbl⟩ := hrel
    have h40 := HR.out.len_le
    have hz := HR.out.zs_le
    have ht := HR.out.txt_le
    have htl := HR.out.2.2
    rw [HLL.out] at htl
    obtain ⟨a, ha⟩ : ∃ a, a = (txt cs).length := ⟨_, rfl⟩
    obtain ⟨z, hzz⟩ : ∃ z, z = zs cs := ⟨_, rfl⟩
    obtain ⟨k, hk⟩ : ∃ k, k = cs.length := ⟨_, rfl⟩
    rw [← ha] at ht htl ⊢
    rw [← hzz] at hz ⊢
    rw [← hk] at ht h40 hown
    have HA := hid ha
    have HZ := hid hzz
    have HK := hid hk
    have hszr := hbl.size
    obtain ⟨A4, c4, rfl, hat4, hk9⟩ := own_bls hown
    clear hk9
    rw [← hk] at hown ⊢
    clear ha hzz hk hat4
    by_cases hlt : a < S.size
    · cases hp : parse (L.drop a) with
      | none =>
        have hc0 : ¬ c = 0 := fun h0 => by
          subst h0
          obtain ⟨b, h1, _⟩ := HST.out.whole_at HR.out (by rw [← HA.out, HLL.out]; exact hlt)
          rw [← HA.out, hp] at h1; cases h1
        have HPN := hid (c_PB_none S a (L.drop a) wr hS htl (by rw [HLS.out]) hp)
        have HC := hid hc0
        clear hp hc0
        go_wp2_with fail
        refine (HPN.out).mono ?_
        rintro e w2 ⟨rfl, hb2⟩
        unfold noPb
        have k2 := hbl.trans (hb2.mono hbl.size)
        have s2 := k2.size
        clear hb2
        go_wp2_with fail
        go_ret2
        exact ⟨_, rfl, (by have h := own_bls0 (w2.alloc (.cells #[.int .i64 0, .bool false, .int .i64 0, .string ByteArray.empty] 35)) w.heap.size (by rw [World.size_alloc]; omega); rw [World.size_alloc] at h; exact h), bel_alloc (bel_alloc k2 _) _⟩
      | some b =>
        have hbo := parse_len hp
        have HPS := hid (c_PB_some S a (L.drop a) b wr hS htl (by rw [HLS.out]) hp)
        have hbn := hbo.1.1
        have hbz := hbo.1.2.1
        have hbl2 := Bl.len b hbo.1
        have hbt := hbo.2.1
        rw [List.length_drop, HLL.out] at hbt
        clear hbo
        have HP := hid hp
        clear hp
        by_cases hn : b.n = (k : Int)
        · have HN := hid (show Rdg L (cs ++ [b]) from HR.out.next (by rw [← HA.out]; exact HP.out) (by rw [hn, HK.out]))
          have HZ2 := hid (show zs (cs ++ [b]) = z + b.z.toNat by rw [zs_snoc, HZ.out])
          have HA2 := hid (show (txt (cs ++ [b])).length = a + 10 + b.body.size by rw [txt_snoc, List.length_append, b.text_len, HA.out]; omega)
          have HK2 := hid (show (cs ++ [b]).length = k + 1 by simp [HK.out])
          obtain ⟨zb, hzb⟩ : ∃ zb, zb = b.z := ⟨_, rfl⟩
          obtain ⟨nb, hnb⟩ : ∃ nb, nb = b.n := ⟨_, rfl⟩
          have HBV := hid (show bv b = [.int .i64 nb, .bool b.raw, .int .i64 zb, .string b.body] by rw [hzb, hnb]; rfl)
          rw [← hzb] at hbz HZ2
          rw [← hzb, ← hnb] at HPS
          rw [← hnb] at hn hbn
          have hnk : (nb == (k : Int)) = true := eq_yes hn
          have hnk2 : (nb != (k : Int)) = false := by simp [hn]
          clear hzb hnb hn
          go_wp2_with fail
          refine (HPS.out).mono ?_
          rintro e w2 ⟨rfl, hb2⟩
          have k2 := hbl.trans (hb2.mono hbl.size)
          have s2 := k2.size
          have hown2 := own_on hown hb2
          have hB := Blk.new w2 35 #[.int .i64 nb, .bool b.raw, .int .i64 zb, .string b.body]
          obtain ⟨c0, c1, c2, c3⟩ := hB.cells4y
          have hownb := hown2.alloc (.cells #[.int .i64 nb, .bool b.raw, .int .i64 zb, .string b.body] 35)
          have hne : ∀ g, (Value.slice A4 k c4).ownBlock = some g → g < w2.heap.size := fun g hg => (hown2.lt g hg).2
          have kb := bel_alloc k2 (.cells #[.int .i64 nb, .bool b.raw, .int .i64 zb, .string b.body] 35)
          clear hB hown hb2
          go_wp2_with (at_builtin; refine app_bl rfl _ _ 45 rfl w.heap.size 35 Tryd.underlying45 Tryd.info_block _ k cs rfl hownb b _ _ _ _ HBV.out.symm 1 (by rw [World.size_alloc]; rfl) (by omega) (by rw [World.size_alloc]; omega) ?_; intro v4 w4 hown4 hb4 hg4; have q2 := hg4.cell c2 (fun h => absurd (hne _ h.symm) (Nat.lt_irrefl _)); clear c0 c1 c2 c3)
          go_roundw
          case rel => exact ⟨cs ++ [b], HN, by rw [HZ2.out]; congr 1; omega, by rw [HA2.out]; rfl, by rw [HK2.out]; exact hown4, kb.trans hb4⟩
          case measure => simp [intOf]; omega
        · have hc0 : ¬ c = 0 := fun h0 => by
            subst h0
            obtain ⟨b', h1, h2⟩ := HST.out.whole_at HR.out (by rw [← HA.out, HLL.out]; exact hlt)
            rw [← HA.out, HP.out] at h1
            simp only [Option.some.injEq] at h1
            subst h1
            exact hn (by rw [h2, HK.out])
          obtain ⟨nb, hnb⟩ : ∃ nb, nb = b.n := ⟨_, rfl⟩
          rw [← hnb] at hn hbn HPS
          have hnk2 : (nb != (k : Int)) = true := by simpa using hn
          clear hnb hn
          go_wp2_with fail
          refine (HPS.out).mono ?_
          rintro e w2 ⟨rfl, hb2⟩
          have k2 := hbl.trans (hb2.mono hbl.size)
          have s2 := k2.size
          have hB := Blk.new w2 35 #[.int .i64 nb, .bool b.raw, .int .i64 b.z, .string b.body]
          obtain ⟨c0, c1, c2, c3⟩ := hB.cells4y
          clear hB hb2
          go_wp2_with fail
          go_ret2
          exact ⟨_, rfl, (by have h := own_bls0 (w2.alloc (.cells #[.int .i64 nb, .bool b.raw, .int .i64 b.z, .string b.body] 35)) w.heap.size (by rw [World.size_alloc]; omega); rw [World.size_alloc] at h; exact h), bel_alloc (bel_alloc k2 _) _⟩
    · have hw : (txt cs).length = L.length := by have h1 := HA.out; have h2 := HLL.out; omega
      by_cases h2000 : 2000 < z
      · have hc0 : ¬ c = 0 := fun h0 => by
          subst h0
          have e := HST.out.whole_eq HR.out hw
          have := HST.out.le
          rw [← e, ← HZ.out] at this
          omega
        clear hw
        go_wp2_with fail
        go_ret2
        exact ⟨_, rfl, own_bls0 _ w.heap.size (by omega), by (repeat (first | with_reducible (first | assumption | exact Below.refl _ _ | refine bel_alloc ?_ _ | refine bel_drew ?_ | refine bel_drewN ?_ _ | refine bel_set ?_ (by first | omega | (simp; done) | (simp; omega)) _ | refine bel_trans ?_ (by assumption)) | assumption | refine bel_trans ?_ (by assumption)))⟩
      · have hs0 : Stop L cs 0 := ⟨HR.out, by rw [← HZ.out]; omega, Or.inl ⟨rfl, hw⟩⟩
        obtain ⟨e1, e2⟩ := HST.out.one hs0
        subst e1 e2
        have HK3 := hid (show bs.length = k from HK.out.symm)
        clear hw hs0
        go_wp2_with fail
        go_ret2
        exact ⟨_, rfl, by simp only [if_true]; rw [HK3.out]; exact hown, hbl⟩
end Go.Proofs.YtepbjmpbcobfpaaDoor
