/- readAll in the program. The layout of the header and the errors are as the program's text lays them. -/
import Derived.Test.YtepbjmpbcobfpaaDoorRy
import Derived.Test.YtepbjmpbcobfpaaDoorYa
namespace Go.Proofs.YtepbjmpbcobfpaaDoor
open Go.ChangeShapes Go.WideShapes Go.ChangeAt Go.RowKit Go.Joins
set_option linter.unusedVariables false
set_option linter.unusedSimpArgs false

/-- the places of blocks that follow each other -/
def pls (cs : List Bl) : List Pr := (List.range cs.length).map fun i => (((txt (cs.take i)).length : Int), (zs (cs.take i) : Int))
theorem pls_snoc (cs : List Bl) (b : Bl) : pls (cs ++ [b]) = pls cs ++ [(((txt cs).length : Int), (zs cs : Int))] := by
  rw [pls, pls, List.length_append, List.length_singleton, List.range_succ, List.map_append]
  congr 1
  · apply List.map_congr_left
    intro i hi
    have : i ≤ cs.length := by have := List.mem_range.1 hi; omega
    rw [List.take_append_of_le_length this]
  · simp
/-- the error of a reading's end -/
def ecV (a0 a1 a2 : Addr) (c : Nat) : Value := if c = 0 then .nilIface else if c = 1 then errV a0 else if c = 2 then errV a1 else errV a2

def slotN (w : World) (c : Nat) : Nat := match w.cell? ⟨c, 2, none⟩ with | some (.int _ n) => n.toNat | _ => 0
theorem slotN_eq {w : World} {c : Nat} {t : TypeId} {u v x : Value} {n : Nat} (h : Blk w c t #[u, v, .int .i64 (n : Int), x]) : slotN w c = n := by
  have h2 : w.cell? ⟨c, 2, none⟩ = some (.int .i64 (n : Int)) := h.cell 2
  rw [slotN, h2]; simp

set_option maxHeartbeats 4000000 in
set_option maxRecDepth 100000 in
theorem c_readAll (S : ByteArray) (L : List UInt8) (bs : List Bl) (c cb : Nat) (w0 w : World) (a0 a1 a2 : Addr) (hS : S.size ≤ 1000000000000) (hL : L = S.data.toList) (hst : Stop L bs c) (hG : Glob w0 a0 a1 a2) (hb0 : Below w0.heap.size w0 w) (hcb : w0.heap.size ≤ cb) (hC : Blk w cb 54 #[.slice none 0 0, .slice none 0 0, .int .i64 0, .int .i64 0]) : Calls Tryd.prog 34 #[.pointer (some ⟨cb, 0, none⟩), .string S] w fun e w' => ∃ u1 u2, e = .returned (ecV a0 a1 a2 c) ∧ Blk w' cb 54 #[u1, u2, .int .i64 ((txt bs).length : Nat), .int .i64 (zs bs : Nat)] ∧ w'.ownsRow w0.heap.size 35 4 u1 bs.length (bvs bs) ∧ w'.ownsRow w0.heap.size 52 2 u2 bs.length (prs (pls bs)) ∧ Below w0.heap.size w0 w' := by
  have hLl : L.length = S.size := by rw [hL]; simp
  have HST := hid hst
  have HLL := hid hLl
  have HLS := hid hL
  have HG := hid hG
  have HC := hid hC
  clear hst hLl hL hG hC
  go_enter Tryd.func34, Tryd.ntmps34
  go_wp2_with fail
  go_loopw [] (fun wr => ∃ (cs : List Bl) (v1 v2 : Value), Hid (Rdg L cs) ∧ zs cs ≤ 2000 ∧ Blk wr cb 54 #[v1, v2, .int .i64 ((txt cs).length : Nat), .int .i64 (zs cs : Nat)] ∧ wr.ownsRow w0.heap.size 35 4 v1 cs.length (bvs cs) ∧ wr.ownsRow w0.heap.size 52 2 v2 cs.length (prs (pls cs)) ∧ Below w0.heap.size w0 wr) (fun wr => S.size - (slotN wr cb))
  case atStart => exact ⟨[], _, _, hid (Rdg.nil _), by simp [zs], HC.out, World.ownsRow_nil _ _ _ _, own_ps_nil _ _ _, hb0⟩
  case round =>
    obtain ⟨cs, v1, v2, HR, hz, hC, h1, h2, hbl⟩ := hrel
    have h40 := HR.out.len_le
    have htl := HR.out.2.2
    rw [HLL.out] at htl
    obtain ⟨a, ha⟩ : ∃ a, a = (txt cs).length := ⟨_, rfl⟩
    obtain ⟨z, hzz⟩ : ∃ z, z = zs cs := ⟨_, rfl⟩
    rw [← ha] at htl hC
    rw [← hzz] at hz hC
    have HA := hid ha
    have HZ := hid hzz
    have HCr := hid hC
    obtain ⟨c0, c1, c2, c3⟩ := hC.cells4y
    have HGr := hid (HG.out.on hbl)
    have hszr := hbl.size
    obtain ⟨A1, q1, rfl, _, hq⟩ := own_bls h1
    have HH1 := hid h1
    have HH2 := hid h2
    clear ha hzz hC h1 h2 hq
    by_cases hlt : a < S.size
    · cases hp : parse (S.data.toList.drop a) with
      | none =>
        have HN := hid (c_readNext_none S a z cb _ _ wr a0 a1 a2 hS htl HGr.out HCr.out hp)
        have hs1 : Stop L cs 1 := ⟨HR.out, by rw [← HZ.out]; exact hz, Or.inr ⟨by rw [← HA.out, HLL.out]; exact hlt, Or.inl ⟨rfl, by rw [← HA.out, HLS.out]; exact hp⟩⟩⟩
        obtain ⟨e1, e2⟩ := HST.out.one hs1
        subst e1 e2
        clear hp hs1
        go_wp2_with fail
        refine (HN.out).mono ?_
        rintro e w2 ⟨rfl, hb2⟩
        have hb3 := bel_trans hbl hb2
        clear c0 c1 c2 c3
        unfold errV
        go_wp2_with fail
        go_ret
        exact ⟨_, _, rfl, by rw [← HA.out, ← HZ.out]; exact HCr.out.on hb2, own_on HH1.out hb2, own_on HH2.out hb2, hb3⟩
      | some b =>
        obtain ⟨k, hk⟩ : ∃ k, k = cs.length := ⟨_, rfl⟩
        have HK := hid hk
        have hpL : parse (L.drop (txt cs).length) = some b := by rw [← HA.out, HLS.out]; exact hp
        have hltL : (txt cs).length < L.length := by rw [← HA.out, HLL.out]; exact hlt
        rw [← hk] at HCr HH1 HH2 h40
        by_cases hn : b.n = (k : Int)
        · have hbz := (parse_len hp).1.2.1
          have hbs := Bl.len b (parse_len hp).1
          by_cases hl : 2000 < z + b.z.toNat
          · have HN := hid (c_readNext_long S a z cb k _ _ _ b wr a0 a1 a2 hS htl HGr.out HCr.out hp (by omega) hn hz hl)
            have hs1 : Stop L cs 3 := ⟨HR.out, by rw [← HZ.out]; exact hz, Or.inr ⟨hltL, Or.inr ⟨b, hpL, Or.inr ⟨rfl, by rw [hn, hk], by rw [← HZ.out]; exact hl⟩⟩⟩⟩
            obtain ⟨e1, e2⟩ := HST.out.one hs1
            subst e1 e2
            rw [hk] at HCr HH1 HH2
            clear hp hs1 hpL hltL hn hk hbz hbs hl
            go_wp2_with fail
            refine (HN.out).mono ?_
            rintro e w2 ⟨rfl, hb2⟩
            have hb3 := bel_trans hbl hb2
            clear c0 c1 c2 c3
            unfold errV
            go_wp2_with fail
            go_ret
            exact ⟨_, _, rfl, by rw [← HA.out, ← HZ.out]; exact HCr.out.on hb2, own_on HH1.out hb2, own_on HH2.out hb2, hb3⟩
          · have HN := hid (c_readNext_yes S a z cb k w0.heap.size _ _ cs (pls cs) b wr a0 a1 a2 hS htl HGr.out HCr.out HH1.out HH2.out hcb hp (by omega) hn hz (by omega))
            have HR2 := hid (show Rdg L (cs ++ [b]) from HR.out.next hpL (by rw [hn, hk]))
            have HZ2 := hid (show zs (cs ++ [b]) = z + b.z.toNat by rw [zs_snoc, HZ.out])
            have HA2 := hid (show (txt (cs ++ [b])).length = a + 10 + b.body.size by rw [txt_snoc, List.length_append, b.text_len, HA.out]; omega)
            have HK2 := hid (show (cs ++ [b]).length = k + 1 by simp [hk])
            have HP2 := hid (show pls (cs ++ [b]) = pls cs ++ [((a : Int), (z : Int))] by rw [pls_snoc, ← HA.out, ← HZ.out])
            have hSl := hid (slotN_eq HCr.out)
            have HL2 := hid (show z + b.z.toNat ≤ 2000 by omega)
            clear hp hpL hltL hn hk hl
            go_wp2_with fail
            refine (HN.out).mono ?_
            rintro e w2 ⟨u1, u2, rfl, hC2, g1, g2, hb2⟩
            have hb3 := hbl.trans hb2
            have hSl2 := hid (show slotN w2 cb = a + 10 + b.body.size from slotN_eq (n := a + 10 + b.body.size) hC2)
            have HC2 := hid hC2
            clear c0 c1 c2 c3 hC2
            go_wp2_with fail
            go_roundw
            case rel => exact ⟨cs ++ [b], u1, u2, HR2, by rw [HZ2.out]; exact HL2.out, by rw [HZ2.out, HA2.out, show ((z + b.z.toNat : Nat) : Int) = (z : Int) + b.z by omega]; exact HC2.out, by rw [HK2.out]; exact g1, by rw [HK2.out, HP2.out]; exact g2, hb3⟩
            case measure => rw [hSl.out, hSl2.out]; omega
        · have HN := hid (c_readNext_num S a z cb k _ _ _ b wr a0 a1 a2 hS htl HGr.out HCr.out hp (by omega) hn)
          have hs1 : Stop L cs 2 := ⟨HR.out, by rw [← HZ.out]; exact hz, Or.inr ⟨hltL, Or.inr ⟨b, hpL, Or.inl ⟨rfl, by rw [← hk]; exact hn⟩⟩⟩⟩
          obtain ⟨e1, e2⟩ := HST.out.one hs1
          subst e1 e2
          rw [hk] at HCr HH1 HH2
          clear hp hs1 hpL hltL hn hk
          go_wp2_with fail
          refine (HN.out).mono ?_
          rintro e w2 ⟨rfl, hb2⟩
          have hb3 := bel_trans hbl hb2
          clear c0 c1 c2 c3
          unfold errV
          go_wp2_with fail
          go_ret
          exact ⟨_, _, rfl, by rw [← HA.out, ← HZ.out]; exact HCr.out.on hb2, own_on HH1.out hb2, own_on HH2.out hb2, hb3⟩
    · have hs0 : Stop L cs 0 := ⟨HR.out, by rw [← HZ.out]; exact hz, Or.inl ⟨rfl, by have h8 := HA.out; have h9 := HLL.out; omega⟩⟩
      obtain ⟨e1, e2⟩ := HST.out.one hs0
      subst e1 e2
      clear hs0
      go_wp2_with fail
      go_ret
      exact ⟨_, _, rfl, by rw [← HA.out, ← HZ.out]; exact HCr.out, HH1.out, HH2.out, hbl⟩
end Go.Proofs.YtepbjmpbcobfpaaDoor
