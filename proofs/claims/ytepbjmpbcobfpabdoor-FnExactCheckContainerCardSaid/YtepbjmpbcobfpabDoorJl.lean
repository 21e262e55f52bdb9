/- CheckContainer in the model. No condition but that the string is not too long. -/
import Derived.Test.YtepbjmpbcobfpabDoorYb
namespace Go.Proofs.YtepbjmpbcobfpabDoor
open Go.ChangeShapes Go.WideShapes Go.ChangeAt Go.RowKit Go.Joins
set_option linter.unusedVariables false
set_option linter.unusedSimpArgs false

set_option maxHeartbeats 4000000 in
set_option maxRecDepth 100000 in
theorem c_sCheckContainer (S : ByteArray) (L : List UInt8) (bs : List Bl) (c : Nat) (w : World) (hS : S.size ≤ 1000000000000) (hL : L = S.data.toList) (hst : Stop L bs c) : Calls Tryd.prog 8 #[.string S] w fun e w' => e = .returned (.tuple #[.int .i64 (c : Nat), .int .i64 ((txt bs).length : Nat)]) ∧ Below w.heap.size w w' := by
  have hLl : L.length = S.size := by rw [hL]; simp
  have HST := hid hst
  have HLL := hid hLl
  have HLS := hid hL
  clear hst hLl hL
  go_enter Tryd.func8, Tryd.ntmps8
  go_wp2_with fail
  go_loopw [4, 5, 6] (fun v s i wr => ∃ cs : List Bl, Hid (Rdg L cs) ∧ v = .int .i64 ((cs.length : Nat) : Int) ∧ s = .int .i64 ((zs cs : Nat) : Int) ∧ i = .int .i64 (((txt cs).length : Nat) : Int) ∧ zs cs ≤ 2000 ∧ Below w.heap.size w wr) (fun _ _ i _ => S.size - (intOf i).toNat)
  case atStart => exact ⟨[], hid (Rdg.nil _), rfl, rfl, rfl, by simp [zs], by (repeat (first | with_reducible (first | assumption | exact Below.refl _ _ | refine bel_alloc ?_ _ | refine bel_drew ?_ | refine bel_drewN ?_ _ | refine bel_set ?_ (by first | omega | (simp; done) | (simp; omega)) _ | refine bel_trans ?_ (by assumption)) | assumption | refine bel_trans ?_ (by assumption)))⟩
  case round =>
    obtain ⟨cs, HR, rfl, rfl, rfl, hz2, hbl⟩ := hrel
    have h40 := HR.out.len_le
    have ht := HR.out.txt_le
    have htl := HR.out.2.2
    rw [HLL.out] at htl
    obtain ⟨a, ha⟩ : ∃ a, a = (txt cs).length := ⟨_, rfl⟩
    obtain ⟨z, hzz⟩ : ∃ z, z = zs cs := ⟨_, rfl⟩
    obtain ⟨k, hk⟩ : ∃ k, k = cs.length := ⟨_, rfl⟩
    rw [← ha] at ht htl ⊢
    rw [← hzz] at hz2 ⊢
    rw [← hk] at ht h40 ⊢
    have HA := hid ha
    have HZ := hid hzz
    have HK := hid hk
    have hszr := hbl.size
    have HRes := hid (fun (c' : Nat) (hs : Stop L cs c') => show (c' : Int) = (c : Int) ∧ ((a : Nat) : Int) = (((txt bs).length : Nat) : Int) from (by
      obtain ⟨e1, e2⟩ := HST.out.one hs
      exact ⟨by rw [e2], by rw [HA.out, e1]⟩))
    clear ha hzz hk
    by_cases hlt : a < S.size
    · cases hp : parse (L.drop a) with
      | none =>
        have HPN := hid (c_PB_none S a (L.drop a) wr hS htl (by rw [HLS.out]) hp)
        have HE := hid (HRes.out 1 ⟨HR.out, by rw [← HZ.out]; exact hz2, Or.inr ⟨by rw [← HA.out, HLL.out]; exact hlt, Or.inl ⟨rfl, by rw [← HA.out]; exact hp⟩⟩⟩)
        clear hp HRes
        unfold noPb at HPN
        go_wp2_with fail
        refine (HPN.out).mono ?_
        rintro e w2 ⟨rfl, hb2⟩
        have hB := Blk.new w2 23 #[.int .i64 0, .bool false, .int .i64 0, .string ByteArray.empty]
        obtain ⟨r0, r1, r2, r3⟩ := hB.cells4y
        have f0 := hB.frozen 0
        have f1 := hB.frozen 1
        have f2 := hB.frozen 2
        have f3 := hB.frozen 3
        have k2 := hbl.trans (hb2.mono hbl.size)
        clear hB hb2
        go_wp2_with fail
        go_ret2
        exact ⟨by rw [← HE.out.1, ← HE.out.2]; rfl, by (repeat (first | with_reducible (first | assumption | exact Below.refl _ _ | refine bel_alloc ?_ _ | refine bel_drew ?_ | refine bel_drewN ?_ _ | refine bel_set ?_ (by first | omega | (simp; done) | (simp; omega)) _ | refine bel_trans ?_ (by assumption)) | assumption | refine bel_trans ?_ (by assumption)))⟩
      | some b =>
        have hbo := parse_len hp
        have HPS := hid (c_PB_some S a (L.drop a) b wr hS htl (by rw [HLS.out]) hp)
        have hbn := hbo.1.1
        have hbz := hbo.1.2.1
        have hbl2 := Bl.len b hbo.1
        have hbt := hbo.2.1
        rw [List.length_drop, HLL.out] at hbt
        clear hbo
        have HP := hid hp
        clear hp
        obtain ⟨zb, hzb⟩ := Int.eq_ofNat_of_zero_le (show 0 ≤ b.z by omega)
        have hz64 : zb ≤ 64 := by omega
        by_cases hn : b.n = (k : Int)
        · by_cases hbig : 2000 < z + zb
          · have HE := hid (HRes.out 3 ⟨HR.out, by rw [← HZ.out]; exact hz2, Or.inr ⟨by rw [← HA.out, HLL.out]; exact hlt, Or.inr ⟨b, by rw [← HA.out]; exact HP.out, Or.inr ⟨rfl, by rw [← HK.out]; exact hn, by rw [← HZ.out, hzb]; exact hbig⟩⟩⟩⟩)
            rw [hzb, hn] at HPS
            have hd : decide ((2000 : Int) < (z : Int) + (zb : Int)) = true := decide_eq_true (by omega)
            have hd2 : decide (2000 < z + zb) = true := decide_eq_true hbig
            have hnk2 : (((k : Nat) : Int) != (k : Int)) = false := by simp
            clear HRes HP hn hbz hbn
            go_wp2_with fail
            refine (HPS.out).mono ?_
            rintro e w2 ⟨rfl, hb2⟩
            have hB := Blk.new w2 23 #[.int .i64 0, .bool false, .int .i64 0, .string ByteArray.empty]
            obtain ⟨r0, r1, r2, r3⟩ := hB.cells4y
            have f0 := hB.frozen 0
            have f1 := hB.frozen 1
            have f2 := hB.frozen 2
            have f3 := hB.frozen 3
            have k2 := hbl.trans (hb2.mono hbl.size)
            clear hB hb2
            go_wp2_with fail
            go_ret2
            exact ⟨by rw [← HE.out.1, ← HE.out.2]; rfl, by (repeat (first | with_reducible (first | assumption | exact Below.refl _ _ | refine bel_alloc ?_ _ | refine bel_drew ?_ | refine bel_drewN ?_ _ | refine bel_set ?_ (by first | omega | (simp; done) | (simp; omega)) _ | refine bel_trans ?_ (by assumption)) | assumption | refine bel_trans ?_ (by assumption)))⟩
          · have HN := hid (show Rdg L (cs ++ [b]) from HR.out.next (by rw [← HA.out]; exact HP.out) (by rw [hn, HK.out]))
            have HZ2 := hid (show zs (cs ++ [b]) = z + zb by rw [zs_snoc, HZ.out, hzb]; rfl)
            have HA2 := hid (show (txt (cs ++ [b])).length = a + 10 + b.body.size by rw [txt_snoc, List.length_append, b.text_len, HA.out]; omega)
            have HK2 := hid (show (cs ++ [b]).length = k + 1 by simp [HK.out])
            rw [hzb, hn] at HPS
            have hd : decide ((2000 : Int) < (z : Int) + (zb : Int)) = false := decide_eq_false (by omega)
            have hd2 : decide (2000 < z + zb) = false := decide_eq_false hbig
            have hnk2 : (((k : Nat) : Int) != (k : Int)) = false := by simp
            clear HRes HP hn hbz hbn
            go_wp2_with fail
            refine (HPS.out).mono ?_
            rintro e w2 ⟨rfl, hb2⟩
            have hB := Blk.new w2 23 #[.int .i64 0, .bool false, .int .i64 0, .string ByteArray.empty]
            obtain ⟨r0, r1, r2, r3⟩ := hB.cells4y
            have f0 := hB.frozen 0
            have f1 := hB.frozen 1
            have f2 := hB.frozen 2
            have f3 := hB.frozen 3
            have k2 := hbl.trans (hb2.mono hbl.size)
            clear hB hb2
            go_wp2_with fail
            go_roundw
            case rel => exact ⟨cs ++ [b], HN, by rw [HK2.out]; go_num, by rw [HZ2.out]; go_num, by rw [HA2.out]; go_num, by rw [HZ2.out]; omega, by (repeat (first | with_reducible (first | assumption | exact Below.refl _ _ | refine bel_alloc ?_ _ | refine bel_drew ?_ | refine bel_drewN ?_ _ | refine bel_set ?_ (by first | omega | (simp; done) | (simp; omega)) _ | refine bel_trans ?_ (by assumption)) | assumption | refine bel_trans ?_ (by assumption)))⟩
            case measure => simp [intOf]; omega
        · have HE := hid (HRes.out 2 ⟨HR.out, by rw [← HZ.out]; exact hz2, Or.inr ⟨by rw [← HA.out, HLL.out]; exact hlt, Or.inr ⟨b, by rw [← HA.out]; exact HP.out, Or.inl ⟨rfl, by rw [← HK.out]; exact hn⟩⟩⟩⟩)
          obtain ⟨nb, hnb⟩ : ∃ nb, nb = b.n := ⟨_, rfl⟩
          rw [← hnb] at hn HPS
          rw [hzb] at HPS
          have hnk2 : (nb != (k : Int)) = true := by simpa using hn
          clear HRes HP hbz hbn hnb hn
          go_wp2_with fail
          refine (HPS.out).mono ?_
          rintro e w2 ⟨rfl, hb2⟩
          have hB := Blk.new w2 23 #[.int .i64 0, .bool false, .int .i64 0, .string ByteArray.empty]
          obtain ⟨r0, r1, r2, r3⟩ := hB.cells4y
          have f0 := hB.frozen 0
          have f1 := hB.frozen 1
          have f2 := hB.frozen 2
          have f3 := hB.frozen 3
          have k2 := hbl.trans (hb2.mono hbl.size)
          clear hB hb2
          go_wp2_with fail
          go_ret2
          exact ⟨by rw [← HE.out.1, ← HE.out.2]; rfl, by (repeat (first | with_reducible (first | assumption | exact Below.refl _ _ | refine bel_alloc ?_ _ | refine bel_drew ?_ | refine bel_drewN ?_ _ | refine bel_set ?_ (by first | omega | (simp; done) | (simp; omega)) _ | refine bel_trans ?_ (by assumption)) | assumption | refine bel_trans ?_ (by assumption)))⟩
    · have HE := hid (HRes.out 0 ⟨HR.out, by rw [← HZ.out]; exact hz2, Or.inl ⟨rfl, by have := HA.out; have := HLL.out; omega⟩⟩)
      have haS : a = S.size := by omega
      have HaS := hid haS
      clear HRes haS
      go_wp2_with fail
      go_ret2
      exact ⟨by rw [← HE.out.1, ← HE.out.2, HaS.out]; rfl, hbl⟩
end Go.Proofs.YtepbjmpbcobfpabDoor
