/- Contracts of the model's ParseSetting. -/
import Derived.Test.YtmfnfheahehpcaaGreatDoorFs
namespace Go.Proofs.YtmfnfheahehpcaaGreatDoor
open Go.ChangeShapes Go.WideShapes Go.ChangeAt Go.RowKit Go.Joins
set_option linter.unusedVariables false

/-- this setting is not valid, or its text is another one -/
def Fail (t : ByteArray) (o l m : Int) : Prop := ¬(setOk o l m = true ∧ fmtS o l m = t)
/-- what ParseSetting returns -/
def PS (t : ByteArray) (e : Ending) : Prop :=
  (∃ o l m : Int, setOk o l m = true ∧ fmtS o l m = t ∧ e = .returned (.tuple #[.agg #[.int .i64 o, .int .i64 l, .int .i64 m], .bool true])) ∨
  ((∀ o l m : Int, Fail t o l m) ∧ e = .returned (.tuple #[.agg #[.int .i64 0, .int .i64 0, .int .i64 0], .bool false]))

theorem bytes_ne {a b : ByteArray} (h : ¬ a = b) : (a.toList == b.toList) = false := by
  rw [ByteArray.toList_eq, ByteArray.toList_eq, beq_eq_false_iff_ne]
  intro e
  exact h (ByteArray.ext (Array.toList_inj.1 e))

set_option maxRecDepth 100000 in
set_option maxHeartbeats 4000000 in
theorem c_sParseSetting (t : ByteArray) (w : World) (ht : t.size ≤ 1048576) : Calls Tryz.prog 44 #[.string t] w fun e w' => PS t e ∧ Below w.heap.size w w' := by
  go_enter Tryz.func44, Tryz.ntmps44
  go_wp2_with fail
  have k1 := Blk.new w 24 #[.int .i64 0, .int .i64 0, .int .i64 0]
  have c1 := bel_alloc (Below.refl w.heap.size w) (.cells #[.int .i64 0, .int .i64 0, .int .i64 0] 24)
  obtain ⟨N, hN⟩ : ∃ N, N = w.heap.size := ⟨_, rfl⟩
  have hNw : w.heap.size ≤ N := by omega
  rw [← hN] at k1 ⊢
  clear hN
  go_loopw [4] (fun av wr => ∃ a : Nat, a ≤ 2 ∧ av = .int .i64 a ∧ Hid (∀ o l m : Int, o < a → Fail t o l m) ∧ Blk wr N 24 #[.int .i64 0, .int .i64 0, .int .i64 0] ∧ Below w.heap.size w wr) (fun av _ => (2 - intOf av).toNat)
  case atStart => exact ⟨0, by omega, rfl, hid (fun o l m h hf => by have := (setOk_iff.1 hf.1).1; omega), k1, c1⟩
  case round =>
    obtain ⟨a, ha, rfl, HA, k2, c2⟩ := hrel
    by_cases h1 : a ≤ 1
    · have h1i : (a : Int) ≤ 1 := by omega
      go_wp2_with fail
      go_loopw [5] (fun bv wr => ∃ b : Nat, 1 ≤ b ∧ b ≤ 9 ∧ bv = .int .i64 b ∧ Hid (∀ o l m : Int, (o < a ∨ (o = a ∧ l < b)) → Fail t o l m) ∧ Blk wr N 24 #[.int .i64 0, .int .i64 0, .int .i64 0] ∧ Below w.heap.size w wr) (fun bv _ => (9 - intOf bv).toNat)
      case atStart => exact ⟨1, by omega, by omega, rfl, hid (fun o l m h hf => by rcases h with h | h; exact HA.out o l m h hf; (have := (setOk_iff.1 hf.1).2.1; omega)), k2, c2⟩
      case round =>
        obtain ⟨b, hb0, hb1, rfl, HB, k3, c3⟩ := hrel
        clear k2 c2
        by_cases h2 : b ≤ 8
        · have h2i : (b : Int) ≤ 8 := by omega
          go_wp2_with fail
          go_loopw [6] (fun cv wr => ∃ c : Nat, 1 ≤ c ∧ c ≤ 11 ∧ cv = .int .i64 c ∧ Hid (∀ o l m : Int, (o < a ∨ (o = a ∧ l < b) ∨ (o = a ∧ l = b ∧ m < c)) → Fail t o l m) ∧ Blk wr N 24 #[.int .i64 0, .int .i64 0, .int .i64 0] ∧ Below w.heap.size w wr) (fun cv _ => (11 - intOf cv).toNat)
          case atStart => exact ⟨1, by omega, by omega, rfl, hid (fun o l m h hf => by rcases h with h | h | h; exact HB.out o l m (.inl h) hf; exact HB.out o l m (.inr h) hf; (have := setOk_iff.1 hf.1; omega)), k3, c3⟩
          case round =>
            obtain ⟨c, hc0, hc1, rfl, HC, k4, c4⟩ := hrel
            clear k3 c3
            by_cases h3 : c ≤ 10
            · obtain ⟨G, hG⟩ : ∃ G, G = setOk a b c := ⟨_, rfl⟩
              obtain ⟨T, hT⟩ : ∃ T, T = fmtS a b c := ⟨_, rfl⟩
              have V := hid (show ∀ w, Calls Tryz.prog 62 #[.agg #[.int .i64 a, .int .i64 b, .int .i64 c]] w fun e w' => e = .returned (.bool G) ∧ Below w.heap.size w w' by intro w; rw [hG]; exact c_sSettingValid a b c w)
              have HFm := hid (show ∀ w, Calls Tryz.prog 30 #[.agg #[.int .i64 a, .int .i64 b, .int .i64 c]] w fun e w' => e = .returned (.string T) ∧ Below w.heap.size w w' by intro w; rw [hT]; exact c_sFormatSetting a b c w)
              have HG := hid hG
              have HT := hid hT
              clear hG hT
              go_wp2_with fail
              obtain ⟨M, hM⟩ : ∃ M, M = wr.heap.size := ⟨_, rfl⟩
              obtain ⟨W4, hW4⟩ : ∃ W4, W4 = wr.alloc (.cells #[.int .i64 a, .int .i64 b, .int .i64 c] 24) := ⟨_, rfl⟩
              have hNM : N < M := by rw [hM]; exact k4.lt
              rw [← hW4, ← hM]
              have kb : Blk W4 M 24 #[.int .i64 a, .int .i64 b, .int .i64 c] := by rw [hW4, hM]; exact Blk.new wr _ _
              have kr : Blk W4 N 24 #[.int .i64 0, .int .i64 0, .int .i64 0] := by rw [hW4]; exact k4.alloc _
              have cW : Below w.heap.size w W4 := by rw [hW4]; exact bel_alloc c4 _
              clear hM hW4 k4 c4
              refine (V.out _).mono ?_
              rintro e W5 ⟨rfl, hb5⟩
              have kb5 := kb.on hb5
              have kr5 := kr.on hb5
              have cW5 := bel_trans cW hb5
              obtain ⟨x5, y5, z5⟩ := kb5.cells3
              clear kb kr cW hb5
              cases G with
              | false =>
                have HF : Fail t a b c := fun hf => by rw [← HG.out] at hf; exact absurd hf.1 (by decide)
                have HD := hid (show ∀ o l m : Int, (o < a ∨ (o = a ∧ l < b) ∨ (o = a ∧ l = b ∧ m < ((c + 1 : Nat) : Int))) → Fail t o l m from fun o l m h => by
                  by_cases hm : m < c
                  · exact HC.out o l m (by omega)
                  · by_cases hx : o = a ∧ l = b ∧ m = c
                    · obtain ⟨rfl, rfl, rfl⟩ := hx
                      exact HF
                    · exact HC.out o l m (by omega))
                clear HF
                go_wp2
                go_roundw
                case rel => exact ⟨c + 1, by omega, by omega, by go_num, HD, kr5, cW5⟩
                case measure => simp [intOf]; omega
              | true =>
                go_wp2_with fail
                refine (HFm.out _).mono ?_
                rintro e W6 ⟨rfl, hb6⟩
                have kb6 := kb5.on hb6
                have kr6 := kr5.on hb6
                have cW6 := bel_trans cW5 hb6
                obtain ⟨x6, y6, z6⟩ := kb6.cells3
                clear kb5 kr5 cW5 hb6 x5 y5 z5
                by_cases he : T = t
                · have he1 : (T.toList == t.toList) = true := by rw [he]; simp
                  have HE := hid he
                  clear he
                  obtain ⟨p0, p1, p2⟩ := kr6.cells3
                  have f0 := kr6.frozen 0
                  have f1 := kr6.frozen 1
                  have f2 := kr6.frozen 2
                  have k7 : Blk (((W6.setCell ⟨N, 0, none⟩ (.int .i64 a)).setCell ⟨N, 1, none⟩ (.int .i64 b)).setCell ⟨N, 2, none⟩ (.int .i64 c)) N 24 #[.int .i64 a, .int .i64 b, .int .i64 c] := ((kr6.set_ 0 _).set_ 1 _).set_ 2 _
                  obtain ⟨j0, j1, j2⟩ := k7.cells3
                  clear kr6 kb6 k7
                  go_wp2
                  (try simp only [Exit.inBlock, Exit.then])
                  exact bodyPost_ret (v := .tuple #[.agg #[.int .i64 a, .int .i64 b, .int .i64 c], .bool true]) (by simp [results, Tryz.results44, go_sem, j0, j1, j2]) rfl ⟨.inl ⟨a, b, c, HG.out.symm, HT.out.symm.trans HE.out, rfl⟩, by exact obB⟩
                · have he1 : (T.toList == t.toList) = false := bytes_ne he
                  have HF : Fail t a b c := fun hf => he (HT.out.trans hf.2)
                  have HD := hid (show ∀ o l m : Int, (o < a ∨ (o = a ∧ l < b) ∨ (o = a ∧ l = b ∧ m < ((c + 1 : Nat) : Int))) → Fail t o l m from fun o l m h => by
                    by_cases hm : m < c
                    · exact HC.out o l m (by omega)
                    · by_cases hx : o = a ∧ l = b ∧ m = c
                      · obtain ⟨rfl, rfl, rfl⟩ := hx
                        exact HF
                      · exact HC.out o l m (by omega))
                  clear HF
                  go_wp2
                  go_roundw
                  case rel => exact ⟨c + 1, by omega, by omega, by go_num, HD, kr6, cW6⟩
                  case measure => simp [intOf]; omega
            · have HD := hid (show ∀ o l m : Int, (o < a ∨ (o = a ∧ l < ((b + 1 : Nat) : Int))) → Fail t o l m from fun o l m h hf => by
                have hs := setOk_iff.1 hf.1
                exact HC.out o l m (by omega) hf)
              go_wp2
              go_roundw
              case rel => exact ⟨b + 1, by omega, by omega, by go_num, HD, k4, c4⟩
              case measure => simp [intOf]; omega
        · have HD := hid (show ∀ o l m : Int, o < ((a + 1 : Nat) : Int) → Fail t o l m from fun o l m h hf => by
            have hs := setOk_iff.1 hf.1
            exact HB.out o l m (by omega) hf)
          go_wp2
          go_roundw
          case rel => exact ⟨a + 1, by omega, by go_num, HD, k3, c3⟩
          case measure => simp [intOf]; omega
    · have HD := hid (show ∀ o l m : Int, Fail t o l m from fun o l m hf => by
        have hs := setOk_iff.1 hf.1
        exact HA.out o l m (by omega) hf)
      obtain ⟨x, y, z⟩ := k2.cells3
      have f0 := k2.frozen 0
      have f1 := k2.frozen 1
      have f2 := k2.frozen 2
      have k5 : Blk (((wr.setCell ⟨N, 0, none⟩ (.int .i64 0)).setCell ⟨N, 1, none⟩ (.int .i64 0)).setCell ⟨N, 2, none⟩ (.int .i64 0)) N 24 #[.int .i64 0, .int .i64 0, .int .i64 0] := ((k2.set_ 0 _).set_ 1 _).set_ 2 _
      obtain ⟨j0, j1, j2⟩ := k5.cells3
      clear k2 k5
      go_wp2
      exact bodyPost_ret (v := .tuple #[.agg #[.int .i64 0, .int .i64 0, .int .i64 0], .bool false]) (by simp [results, Tryz.results44, go_sem, j0, j1, j2]) rfl ⟨.inr ⟨HD.out, rfl⟩, by exact obB⟩
end Go.Proofs.YtmfnfheahehpcaaGreatDoor
