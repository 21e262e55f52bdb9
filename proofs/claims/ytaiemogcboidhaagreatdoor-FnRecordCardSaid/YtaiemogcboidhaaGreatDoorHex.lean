/- Contracts of FormatHex and ParseHex in both programs. -/
import Derived.Test.YtaiemogcboidhaaGreatDoorBit
import Derived.Deep.RegionLaw
namespace Go.Proofs.YtaiemogcboidhaaGreatDoor
open Go.ChangeShapes Go.WideShapes Go.ChangeAt Go.RowKit Go.Joins
set_option linter.unusedVariables false

/-- The same, as one step of a region that draws its order. -/
theorem step_two {P : Program} {W : World} {ops : Array Oper} {o : Oper} {a : Act} {K : Act → World → Prop} {Q : Exit → Act → World → Prop} {E : Prop} (hgd : o.guard = none) (s x : Operand) (t : TypeId)
    (ho : o.op = .call { callee := .builtin .append, args := #[s, x], argTypes := #[t, t] }) (B : Nat) (e : TypeId) (ht : P.underlying t = some (.slice e))
    (hinfo : (P.info? e).map (fun i => (i.zero, i.size, i.bytes)) = some (some (.int .u8 0), 1, 1)) (v : Value) (n : Nat) (l : List UInt8) (hs : a.eval s = v) (hown : W.ownsRow B e 1 v n (l.map vb)) (c d : UInt8) (X Y : Int) (hX : X = (c.toNat : Int)) (hY : Y = (d.toNat : Int)) (g cp : Nat)
    (hx : a.eval x = .slice (some ⟨g, 0, none⟩) 2 cp) (h0 : W.cell? ⟨g, 0, none⟩ = some (.int .u8 X)) (h1 : W.cell? ⟨g, 1, none⟩ = some (.int .u8 Y)) (hn : n ≤ 100000000000) (hB : B ≤ W.heap.size)
    (h : ∀ v' w', w'.ownsRow B e 1 v' (n + 2) ((l ++ [c, d]).map vb) → Below B W w' → W.grownBy w' v.ownBlock → K (a.put o.dst v') w') : if Region.wanted o (yielded ops a.tmps) = true then Oper.wp P o a W K Q else E := by
  have hw : Region.wanted o (yielded ops a.tmps) = true := by simp [Region.wanted, hgd]
  rw [if_pos hw]
  obtain ⟨i0, hi, hz0, hz1, hz2⟩ := info_parts hinfo
  refine wp_append_own W s x t ho B e i0 (.int .u8 0) 1 1 ht hi hz0 hz1 hz2 rfl (by decide) v n (l.map vb) hs hown ⟨g, 0, none⟩ 2 cp [.int .u8 X, .int .u8 Y] hx rfl ?_ ?_ ?_ (by omega) hB ?_
  · intro j u hj
    match j, hj with
    | 0, hj =>
      simp at hj
      subst hj
      have : ((⟨g, 0, none⟩ : Addr).add 0) = ⟨g, 0, none⟩ := by simp [Addr.add]
      rw [this]; exact h0
    | 1, hj =>
      simp at hj
      subst hj
      have : ((⟨g, 0, none⟩ : Addr).add 1) = ⟨g, 1, none⟩ := by simp [Addr.add]
      rw [this]; exact h1
  · intro u hu; simp at hu; rcases hu with rfl | rfl <;> rfl
  · unfold maxLen; omega
  · intro v' w' hown' hg _
    refine h v' w' ?_ (below_of_grown hg hB (fun g hg => (hown.lt g hg).1)) hg
    rw [List.map_append]
    have e1 : [Value.int .u8 X, .int .u8 Y] = [c, d].map vb := by simp [vb, hX, hY]
    rw [← e1]; exact hown'

def hexS : ByteArray := ⟨#[48, 49, 50, 51, 52, 53, 54, 55, 56, 57, 97, 98, 99, 100, 101, 102]⟩
theorem hex_at : ∀ n : Fin 16, hexS[n.val]? = some (M.hexd n.val) := by decide
theorem hexS_at (n : Nat) (hn : n < 16) (h : n < hexS.size) : hexS[n]'h = M.hexd n := by
  have h1 := hex_at ⟨n, hn⟩
  have h2 : hexS[n]? = some (M.hexd n) := h1
  rw [getElem?_pos hexS n h] at h2
  exact Option.some.inj h2
theorem hex_index {P : Program} {t : TypeId} (ht : P.underlying t = some .string) (n : Nat) (hn : n < 16) (k : IntKind) (X : Int) (hX : X = (n : Int)) (w : World) :
    (Instr.index t (.string ⟨#[48, 49, 50, 51, 52, 53, 54, 55, 56, 57, 97, 98, 99, 100, 101, 102]⟩) (.int k X)).run P w = .ok (.int .u8 ((M.hexd n).toNat : Int)) w := by
  subst hX
  have hs : hexS.size = 16 := rfl
  have hb : 0 ≤ (n : Int) ∧ (n : Int) < (hexS.size : Int) := by omega
  have e := run_index_string (P := P) (w := w) t hexS k (n : Int) ht
  rw [dif_pos hb] at e
  refine e.trans ?_
  have e2 := hexS_at (n : Int).toNat (by omega) (by omega)
  rw [e2]; rfl

theorem c_FormatHex_no (s : ByteArray) (w : World) (hs : s.size ≤ maxLen) (h : 4000 < s.size) : Calls Tryz.prog 49 #[.string s] w fun e w' => e = .returned (.string (str (M.fmtHex s.data.toList))) ∧ Below w.heap.size w w' := by
  unfold maxLen at hs
  have HE := hid (show str (M.fmtHex s.data.toList) = ByteArray.empty by rw [M.fmtHex, if_neg (by simp; omega)]; rfl)
  go_enter Tryz.func49, Tryz.ntmps49
  go_wp2
  go_ret
  exact ⟨by rw [HE.out]; rfl, by exact obB⟩

set_option maxHeartbeats 1000000 in
theorem c_FormatHex_yes (s : ByteArray) (w : World) (h : s.size ≤ 4000) : Calls Tryz.prog 49 #[.string s] w fun e w' => e = .returned (.string (str (M.fmtHex s.data.toList))) ∧ Below w.heap.size w w' := by
  have HE := hid (show M.fmtHex s.data.toList = M.hex s.data.toList by rw [M.fmtHex, if_pos (by simpa using h)])
  have hd : decide ((4000 : Int) < (s.size : Int)) = false := by simp; omega
  go_enter Tryz.func49, Tryz.ntmps49
  go_wp2_with (at_make; refine make_bytes0 rfl _ _ 22 rfl w.heap.size 5 Tryz.underlying22 Tryz.info_u8b .i64 .i64 _ (2 * s.size) rfl rfl (by omega) (by omega) (Nat.le_refl _) ?_; rintro v1 w1 rfl hown1 hb1 hg1)
  go_loopw [3, 14] (fun v i wr => ∃ k : Nat, k ≤ s.size ∧ i = .int .i64 k ∧ wr.ownsRow w.heap.size 5 1 v (2 * k) ((M.hex (s.data.toList.take k)).map vb) ∧ Below w.heap.size w wr) (fun _ i _ => (s.size - intOf i).toNat)
  case atStart => exact ⟨0, Nat.zero_le _, rfl, by simpa [M.hex] using hown1, by exact obB⟩
  case round =>
    obtain ⟨k, hk, rfl, hown, hbl⟩ := hrel
    have hsz := hbl.size
    by_cases hlt : k < s.size
    · have hb8 := byte_le s k hlt
      have h8 := (s[k]).toNat_lt
      have hk0 : (0 : Int) ≤ (k : Int) := by omega
      have hk1 : (k : Int) < (s.size : Int) := by omega
      have eb := u8_and15 (x := ((s[k]).toNat : Int)) (by omega) (by omega)
      have HN := hid (show M.hex (s.data.toList.take (k + 1)) = M.hex (s.data.toList.take k) ++ [M.hexd ((s[k]).toNat / 16), M.hexd ((s[k]).toNat % 16)] by rw [take_snoc s k hlt, M.hex_snoc])
      obtain ⟨c1, hc1⟩ : ∃ c, c = M.hexd ((s[k]).toNat / 16) := ⟨_, rfl⟩
      obtain ⟨c2, hc2⟩ : ∃ c, c = M.hexd ((s[k]).toNat % 16) := ⟨_, rfl⟩
      have q1 := hex_index (P := Tryz.prog) Tryz.underlying9 ((s[k]).toNat / 16) (by omega) .u8 (((s[k]).toNat : Int) / 16) (by omega)
      have q2 := hex_index (P := Tryz.prog) Tryz.underlying9 ((s[k]).toNat % 16) (by omega) .u8 (((s[k]).toNat : Int) % 16) (by omega)
      rw [← hc1] at q1
      rw [← hc2] at q2
      rw [← hc1, ← hc2] at HN
      clear hc1 hc2
      go_wp2_with fail
      go_region_law (refine step_two (B := w.heap.size) (by rfl) (.tmp 17) (.tmp 28) 22 (by rfl) 5 Tryz.underlying22 Tryz.info_u8b _ (2 * k) _ (by rfl) (by exact (hown.alloc _)) c1 c2 _ _ rfl rfl wr.heap.size 2 (by rfl) (by exact (Blk.new wr _ _).cell 0) (by exact (Blk.new wr _ _).cell 1) (by omega) (by simp; try omega) ?_; intro v2 w2 hown2 hb2 hg2)
      all_goals
        go_wp2
        go_roundw
        case rel => exact ⟨k + 1, by omega, by go_num, by rw [HN.out]; exact hown2, (bel_drew (bel_alloc hbl _)).trans hb2⟩
        case measure => simp [intOf]; omega
    · have hcv := run_str Tryz.underlying22 Tryz.underlying5 Tryz.underlying9 hown
      have HK := hid (show M.hex (s.data.toList.take k) = M.hex s.data.toList by rw [List.take_of_length_le (by simp; omega)])
      go_wp2
      go_ret
      exact ⟨by rw [HE.out, ← HK.out]; rfl, by exact obB⟩

theorem c_sFormatHex_no (s : ByteArray) (w : World) (hs : s.size ≤ 1048576) (h : 4000 < s.size) : Calls Tryz.prog 23 #[.string s] w fun e w' => e = .returned (.string (str (M.fmtHex s.data.toList))) ∧ Below w.heap.size w w' := by
  have HE := hid (show str (M.fmtHex s.data.toList) = ByteArray.empty by rw [M.fmtHex, if_neg (by simp; omega)]; rfl)
  go_enter Tryz.func23, Tryz.ntmps23
  go_wp2_with (at_make; refine make_bytes0 rfl _ _ 22 rfl w.heap.size 5 Tryz.underlying22 Tryz.info_u8b .i64 .i64 _ (2 * s.size) rfl rfl (by omega) (by omega) (Nat.le_refl _) ?_; rintro v1 w1 rfl hown1 hb1 hg1)
  go_ret
  exact ⟨by rw [HE.out]; rfl, by exact obB⟩

set_option maxHeartbeats 1000000 in
theorem c_sFormatHex_yes (s : ByteArray) (w : World) (h : s.size ≤ 4000) : Calls Tryz.prog 23 #[.string s] w fun e w' => e = .returned (.string (str (M.fmtHex s.data.toList))) ∧ Below w.heap.size w w' := by
  have HE := hid (show M.fmtHex s.data.toList = M.hex s.data.toList by rw [M.fmtHex, if_pos (by simpa using h)])
  have hd : decide ((4000 : Int) < (s.size : Int)) = false := by simp; omega
  go_enter Tryz.func23, Tryz.ntmps23
  go_wp2_with (at_make; refine make_bytes0 rfl _ _ 22 rfl w.heap.size 5 Tryz.underlying22 Tryz.info_u8b .i64 .i64 _ (2 * s.size) rfl rfl (by omega) (by omega) (Nat.le_refl _) ?_; rintro v1 w1 rfl hown1 hb1 hg1)
  go_loopw [4, 5] (fun v i wr => ∃ k : Nat, k ≤ s.size ∧ i = .int .i64 k ∧ wr.ownsRow w.heap.size 5 1 v (2 * k) ((M.hex (s.data.toList.take k)).map vb) ∧ Below w.heap.size w wr) (fun _ i _ => (s.size - intOf i).toNat)
  case atStart => exact ⟨0, Nat.zero_le _, rfl, by simpa [M.hex] using hown1, by exact obB⟩
  case round =>
    obtain ⟨k, hk, rfl, hown, hbl⟩ := hrel
    have hsz := hbl.size
    by_cases hlt : k < s.size
    · have hb8 := byte_le s k hlt
      have h8 := (s[k]).toNat_lt
      have hk0 : (0 : Int) ≤ (k : Int) := by omega
      have hk1 : (k : Int) < (s.size : Int) := by omega
      have HN := hid (show M.hex (s.data.toList.take (k + 1)) = M.hex (s.data.toList.take k) ++ [M.hexd ((s[k]).toNat / 16), M.hexd ((s[k]).toNat % 16)] by rw [take_snoc s k hlt, M.hex_snoc])
      obtain ⟨c1, hc1⟩ : ∃ c, c = M.hexd ((s[k]).toNat / 16) := ⟨_, rfl⟩
      obtain ⟨c2, hc2⟩ : ∃ c, c = M.hexd ((s[k]).toNat % 16) := ⟨_, rfl⟩
      have q1 := hex_index (P := Tryz.prog) Tryz.underlying9 ((s[k]).toNat / 16) (by omega) .u8 (((s[k]).toNat : Int) / 16) (by omega)
      have q2 := hex_index (P := Tryz.prog) Tryz.underlying9 ((s[k]).toNat % 16) (by omega) .u8 (((s[k]).toNat : Int) % 16) (by omega)
      have e1 := IntWalk.u8_in (((s[k]).toNat : Int) / 16) (by omega)
      have e2 : ((s[k]).toNat : Int).tmod 16 = ((s[k]).toNat : Int) % 16 := Int.tmod_eq_emod_of_nonneg (by omega)
      rw [← hc1] at q1
      rw [← hc2] at q2
      rw [← hc1, ← hc2] at HN
      clear hc1 hc2
      go_wp2_with fail
      go_region_law (refine step_two (B := w.heap.size) (by rfl) (.tmp 19) (.tmp 32) 22 (by rfl) 5 Tryz.underlying22 Tryz.info_u8b _ (2 * k) _ (by rfl) (by exact (hown.alloc _)) c1 c2 _ _ rfl rfl wr.heap.size 2 (by rfl) (by exact (Blk.new wr _ _).cell 0) (by exact (Blk.new wr _ _).cell 1) (by omega) (by simp; try omega) ?_; intro v2 w2 hown2 hb2 hg2)
      all_goals
        go_wp2
        go_roundw
        case rel => exact ⟨k + 1, by omega, by go_num, by rw [HN.out]; exact hown2, (bel_drew (bel_alloc hbl _)).trans hb2⟩
        case measure => simp [intOf]; omega
    · have hcv := run_str Tryz.underlying22 Tryz.underlying5 Tryz.underlying9 hown
      have HK := hid (show M.hex (s.data.toList.take k) = M.hex s.data.toList by rw [List.take_of_length_le (by simp; omega)])
      go_wp2
      go_ret
      exact ⟨by rw [HE.out, ← HK.out]; rfl, by exact obB⟩
end Go.Proofs.YtaiemogcboidhaaGreatDoor
