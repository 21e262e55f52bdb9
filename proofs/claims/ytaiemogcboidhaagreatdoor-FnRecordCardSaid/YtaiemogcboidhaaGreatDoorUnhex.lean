/- Contracts of ParseHex in both programs. -/
import Derived.Test.YtaiemogcboidhaaGreatDoorHex
import Derived.Test.YtaiemogcboidhaaGreatDoorShelf
namespace Go.Proofs.YtaiemogcboidhaaGreatDoor
open Go.ChangeShapes Go.WideShapes Go.ChangeAt Go.RowKit Go.Joins
set_option linter.unusedVariables false

def hexI (c : UInt8) : Int := match M.hexv c with | some n => (n : Int) | none => -1
theorem hexI_all : ∀ n : Fin 256, Lib.indexByte hexS.data.toList (UInt8.ofNat n.val) = hexI (UInt8.ofNat n.val) := by decide +kernel
theorem hexI_ix (c : UInt8) : Lib.indexByte hexS.data.toList c = hexI c := by
  have := hexI_all ⟨c.toNat, c.toNat_lt⟩
  simpa using this
theorem hexI_some {c : UInt8} {n : Nat} (h : M.hexv c = some n) : hexI c = n := by simp [hexI, h]
theorem hexI_none {c : UInt8} (h : M.hexv c = none) : hexI c = -1 := by simp [hexI, h]

theorem c_IndexByte (c : UInt8) (w : World) : Calls Tryz.prog 85 #[.string ⟨#[48, 49, 50, 51, 52, 53, 54, 55, 56, 57, 97, 98, 99, 100, 101, 102]⟩, .int .u8 (c.toNat : Int)] w (Same (.int .i64 (hexI c)) w) :=
  (Tryz.strings_IndexByte hexS (c.toNat : Int) w).mono fun _ _ ⟨he, hw⟩ => ⟨by rw [he]; rw [← hexI_ix]; simp, hw.symm⟩

theorem indexByte_ge (l : List UInt8) (c : UInt8) : -1 ≤ Lib.indexByte l c := by
  induction l with
  | nil => simp [Lib.indexByte]
  | cons b t ih => rw [Lib.indexByte]; split <;> (try split) <;> omega
def fI (l : List UInt8) (c : UInt8) (k : Nat) : Int := if Lib.indexByte l c = -1 then -1 else (k : Int) + Lib.indexByte l c
theorem fI_zero (l : List UInt8) (c : UInt8) : fI l c 0 = Lib.indexByte l c := by unfold fI; split <;> simp_all
theorem fI_hit (c : UInt8) (t : List UInt8) (k : Nat) : fI (c :: t) c k = k := by simp [fI, Lib.indexByte]
theorem fI_miss (b c : UInt8) (t : List UInt8) (k : Nat) (h : b ≠ c) : fI (b :: t) c k = fI t c (k + 1) := by
  have hb : (b == c) = false := by simpa using h
  have := indexByte_ge t c
  simp only [fI, Lib.indexByte, hb, Bool.false_eq_true, if_false]
  by_cases hx : Lib.indexByte t c = -1
  · simp [hx]
  · have hx2 : (Lib.indexByte t c == -1) = false := by simpa using hx
    simp only [hx2, Bool.false_eq_true, if_false, hx]
    rw [if_neg (by omega)]; omega
theorem drop_cons (s : ByteArray) (k : Nat) (hk : k < s.size) : s.data.toList.drop k = s[k] :: s.data.toList.drop (k + 1) := by
  rw [List.drop_eq_getElem_cons (by simpa using hk)]; rfl

theorem c_l9Find (s : ByteArray) (c : UInt8) (w : World) (hs : s.size ≤ maxLen) : Calls Tryz.prog 60 #[.string s, .int .u8 (c.toNat : Int)] w (Same (.int .i64 (Lib.indexByte s.data.toList c)) w) := by
  unfold maxLen at hs
  have hc := c.toNat_lt
  go_enter Tryz.func60, Tryz.ntmps60
  go_wp2
  go_loop [5] (fun i => ∃ k : Nat, k ≤ s.size ∧ i = .int .i64 k ∧ Hid (Lib.indexByte s.data.toList c = fI (s.data.toList.drop k) c k)) (fun i => s.size - (intOf i).toNat)
  case atStart => exact ⟨0, Nat.zero_le _, rfl, hid (by rw [List.drop_zero, fI_zero])⟩
  case round =>
    obtain ⟨k, hk, rfl, HK⟩ := hrel
    by_cases hlt : k < s.size
    · by_cases he : s[k] = c
      · have hb : (((s[k]).toNat : Int) == (c.toNat : Int)) = true := by rw [he]; simp
        have HR := hid (show fI (s.data.toList.drop k) c k = k by rw [drop_cons s k hlt, he, fI_hit])
        clear he
        go_wp2
        go_ret
        exact ⟨ret_int (by rw [HK.out, HR.out]), rfl⟩
      · have hb : (((s[k]).toNat : Int) == (c.toNat : Int)) = false := by
          rw [beq_eq_false_iff_ne]; intro h; exact he (UInt8.toNat_inj.1 (by omega))
        have HR := hid (show fI (s.data.toList.drop k) c k = fI (s.data.toList.drop (k + 1)) c (k + 1) by rw [drop_cons s k hlt, fI_miss _ _ _ _ he])
        clear he
        go_wp2
        go_round
        case rel => exact ⟨k + 1, by omega, by go_num, hid (by rw [HK.out, HR.out])⟩
        case measure => simp [intOf]; omega
    · have HR := hid (show fI (s.data.toList.drop k) c k = -1 by rw [List.drop_of_length_le (by simp; omega)]; simp [fI, Lib.indexByte])
      go_wp2
      go_ret
      exact ⟨ret_int (by rw [HK.out, HR.out]), rfl⟩
theorem c_hexFind (c : UInt8) (w : World) : Calls Tryz.prog 60 #[.string ⟨#[48, 49, 50, 51, 52, 53, 54, 55, 56, 57, 97, 98, 99, 100, 101, 102]⟩, .int .u8 (c.toNat : Int)] w (Same (.int .i64 (hexI c)) w) := by
  rw [← hexI_ix]; exact c_l9Find hexS c w (by decide)

theorem or_hex (x y : Nat) (hx : x < 16) (hy : y < 16) : bits .or .i64 ((x : Int) * 16) (y : Int) = ((16 * x + y : Nat) : Int) := by
  have e : (x : Int) * 16 = ((x * 16 : Nat) : Int) := by omega
  rw [e, or_i64 _ _ (by omega) (by omega), Nat.mul_comm x 16, show (16 : Nat) = 2 ^ 4 from rfl, M.or_add 4 x y (by omega)]
theorem byte_16 (x y : Nat) (hx : x < 16) (hy : y < 16) : ((16 * x + y : Nat) : Int) = (((UInt8.ofNat (16 * x + y)).toNat : Nat) : Int) := by
  rw [UInt8.toNat_ofNat']; omega
theorem byte_get (s : ByteArray) (k : Nat) (hk : k < s.size) : s.data.toList[k]? = some s[k] := by
  rw [List.getElem?_eq_getElem (by simpa using hk)]; rfl

theorem parseHex_none_of (s : ByteArray) (h : ¬(s.size % 2 = 0 ∧ s.size ≤ 8000)) : M.parseHex s.data.toList = none := by
  rw [M.parseHex, if_neg (by simpa using h)]
theorem parseHex_of (s : ByteArray) (h1 : s.size % 2 = 0) (h2 : s.size ≤ 8000) : M.parseHex s.data.toList = M.unhex s.data.toList := by
  rw [M.parseHex, if_pos (by simpa using ⟨h1, h2⟩)]

/-- what ParseHex returns -/
def PH (s : ByteArray) (e : Ending) : Prop := (M.parseHex s.data.toList = none ∧ e = .returned (.tuple #[.string ByteArray.empty, .bool false])) ∨ ∃ d, M.parseHex s.data.toList = some d ∧ e = .returned (.tuple #[.string (str d), .bool true])

set_option maxRecDepth 100000 in
set_option maxHeartbeats 1000000 in
theorem c_ParseHex (s : ByteArray) (w : World) (hs : s.size ≤ maxLen) : Calls Tryz.prog 72 #[.string s] w fun e w' => PH s e ∧ Below w.heap.size w w' := by
  unfold maxLen at hs
  by_cases h1 : s.size % 2 = 0
  · by_cases h2 : s.size ≤ 8000
    · have b1 : (((s.size : Int) % 2) != 0) = false := ne_no (by omega)
      obtain ⟨N, hN⟩ : ∃ N, N = s.size / 2 := ⟨_, rfl⟩
      have hN1 : (s.size : Int) ≤ 2 * (N : Int) := by omega
      have hN2 : 2 * (N : Int) ≤ (s.size : Int) := by omega
      have HP := hid (parseHex_of s h1 h2)
      clear hN h1
      go_enter Tryz.func72, Tryz.ntmps72
      go_wp2_with (at_make; refine make_bytes rfl _ _ 22 rfl w.heap.size 5 Tryz.underlying22 Tryz.info_u8b .i64 .i64 _ _ N rfl rfl (by omega) (by omega) (by omega) (Nat.le_refl _) ?_; intro w1 hown1 hb1 hg1)
      go_loopw [23] (fun i wr => ∃ k : Nat, ∃ d : List UInt8, k ≤ N ∧ i = .int .i64 k ∧ Hid (M.unhex (s.data.toList.take (2 * k)) = some d) ∧ Hid (d.length = k) ∧ wr.ownsRow w.heap.size 5 1 (.slice (some ⟨w.heap.size, 0, none⟩) N N) N ((d ++ List.replicate (N - k) (0 : UInt8)).map vb) ∧ Below w.heap.size w wr) (fun i _ => N - (intOf i).toNat)
      case atStart => exact ⟨0, [], Nat.zero_le _, rfl, hid rfl, hid rfl, by simpa using hown1, by exact obB⟩
      case round =>
        obtain ⟨k, d, hk, rfl, HD, HL, hown, hbl⟩ := hrel
        by_cases hlt : k < N
        · have i1 : 2 * k < s.size := by omega
          have i2 : 2 * k + 1 < s.size := by omega
          have HU := hid (M.unhex_step s.data.toList k s[2 * k] s[2 * k + 1] (byte_get s _ i1) (byte_get s _ i2))
          have g1 := byte_le s _ i1
          have g2 := byte_le s _ i2
          have hcell := own_cell hown k hlt
          have hfr := hown.frozenAt k
          cases hv1 : M.hexv s[2 * k] with
          | none =>
            have c1 := fun w => c_IndexByte s[2 * k] w
            rw [hexI_none hv1] at c1
            have C1 := hid c1
            have C2 := hid (fun w => c_IndexByte s[2 * k + 1] w)
            have HX := hid (show M.unhex s.data.toList = none from M.unhex_none _ (k + 1) (by simp; omega) (by rw [HU.out, HD.out, hv1]))
            clear hv1 c1
            go_wp2_with (go_at_call 85; first | (refine (C1.out _).mono ?_; rintro e w' ⟨rfl, rfl⟩) | (refine (C2.out _).mono ?_; rintro e w' ⟨rfl, rfl⟩))
            go_ret2
            exact ⟨.inl ⟨by rw [HP.out]; exact HX.out, rfl⟩, by exact obB⟩
          | some x =>
            have hx := M.hexv_lt _ _ hv1
            have c1 := fun w => c_IndexByte s[2 * k] w
            rw [hexI_some hv1] at c1
            have C1 := hid c1
            clear c1
            cases hv2 : M.hexv s[2 * k + 1] with
            | none =>
              have c2 := fun w => c_IndexByte s[2 * k + 1] w
              rw [hexI_none hv2] at c2
              have C2 := hid c2
              have HX := hid (show M.unhex s.data.toList = none from M.unhex_none _ (k + 1) (by simp; omega) (by rw [HU.out, HD.out, hv1, hv2]))
              clear hv1 hv2 c2
              go_wp2_with (go_at_call 85; first | (refine (C1.out _).mono ?_; rintro e w' ⟨rfl, rfl⟩) | (refine (C2.out _).mono ?_; rintro e w' ⟨rfl, rfl⟩))
              go_ret2
              exact ⟨.inl ⟨by rw [HP.out]; exact HX.out, rfl⟩, by exact obB⟩
            | some y =>
              have hy := M.hexv_lt _ _ hv2
              have c2 := fun w => c_IndexByte s[2 * k + 1] w
              rw [hexI_some hv2] at c2
              have C2 := hid c2
              have HX := hid (show M.unhex (s.data.toList.take (2 * (k + 1))) = some (d ++ [UInt8.ofNat (16 * x + y)]) by rw [HU.out, HD.out, hv1, hv2])
              have eo := or_hex x y hx hy
              obtain ⟨z, hz⟩ : ∃ z, z = 16 * x + y := ⟨_, rfl⟩
              have HB := hid (byte_16 x y hx hy)
              rw [← hz] at eo HB HX
              have hz1 : z < 256 := by omega
              clear hv1 hv2 c2 hz
              go_wp2_with (go_at_call 85; first | (refine (C1.out _).mono ?_; rintro e w' ⟨rfl, rfl⟩) | (refine (C2.out _).mono ?_; rintro e w' ⟨rfl, rfl⟩))
              have hst := own_store hown HL.out hlt (UInt8.ofNat z) (z : Int) HB.out
              go_roundw
              case rel => exact ⟨k + 1, d ++ [UInt8.ofNat z], by omega, by go_num, hid HX.out, hid (by simp [HL.out]), hst.1, by exact obB⟩
              case measure => simp [intOf]; omega
        · have hcv := run_str (l := d) Tryz.underlying22 Tryz.underlying5 Tryz.underlying9 (by rw [show N - k = 0 from by omega, List.replicate_zero, List.append_nil] at hown; exact hown)
          have HX := hid (show M.unhex s.data.toList = some d by rw [← HD.out, List.take_of_length_le (by simp; omega)])
          go_wp2
          go_ret2
          exact ⟨.inr ⟨d, by rw [HP.out]; exact HX.out, rfl⟩, by exact obB⟩
    · have b1 : (((s.size : Int) % 2) != 0) = false := ne_no (by omega)
      have HN := hid (parseHex_none_of s (by omega))
      go_enter Tryz.func72, Tryz.ntmps72
      go_wp2
      go_ret2
      exact ⟨.inl ⟨HN.out, rfl⟩, by exact obB⟩
  · have b1 : (((s.size : Int) % 2) != 0) = true := ne_yes (by omega)
    have HN := hid (parseHex_none_of s (by omega))
    go_enter Tryz.func72, Tryz.ntmps72
    go_wp2
    go_ret2
    exact ⟨.inl ⟨HN.out, rfl⟩, by exact obB⟩

set_option maxRecDepth 100000 in
set_option maxHeartbeats 1000000 in
theorem c_sParseHex (s : ByteArray) (w : World) (hs : s.size ≤ 1048576) : Calls Tryz.prog 38 #[.string s] w fun e w' => PH s e ∧ Below w.heap.size w w' := by
  obtain ⟨N, hN⟩ : ∃ N, N = s.size / 2 := ⟨_, rfl⟩
  have hN1 : (s.size : Int) ≤ 2 * (N : Int) + 1 := by omega
  have hN2 : 2 * (N : Int) ≤ (s.size : Int) := by omega
  by_cases h1 : s.size % 2 = 0
  · by_cases h2 : s.size ≤ 8000
    · have b1 : (((s.size : Int) % 2) != 0) = false := ne_no (by omega)
      have hN3 : (s.size : Int) ≤ 2 * (N : Int) := by omega
      have HP := hid (parseHex_of s h1 h2)
      clear hN h1
      go_enter Tryz.func38, Tryz.ntmps38
      go_wp2_with (at_make; refine make_bytes0 rfl _ _ 22 rfl w.heap.size 5 Tryz.underlying22 Tryz.info_u8b .i64 .i64 _ N rfl rfl (by omega) (by omega) (Nat.le_refl _) ?_; rintro v1 w1 rfl hown1 hb1 hg1)
      go_loopw [4, 5] (fun v i wr => ∃ k : Nat, ∃ d : List UInt8, k ≤ N ∧ i = .int .i64 (2 * (k : Int)) ∧ Hid (M.unhex (s.data.toList.take (2 * k)) = some d) ∧ wr.ownsRow w.heap.size 5 1 v k (d.map vb) ∧ Below w.heap.size w wr) (fun _ i _ => (s.size - intOf i).toNat)
      case atStart => exact ⟨0, [], Nat.zero_le _, by simp, hid rfl, hown1, by exact obB⟩
      case round =>
        obtain ⟨k, d, hk, rfl, HD, hown, hbl⟩ := hrel
        have hszw := hbl.size
        by_cases hlt : k < N
        · have i1 : 2 * k < s.size := by omega
          have i2 : 2 * k + 1 < s.size := by omega
          have HU := hid (M.unhex_step s.data.toList k s[2 * k] s[2 * k + 1] (byte_get s _ i1) (byte_get s _ i2))
          have g1 := byte_le s _ i1
          have g2 := byte_le s _ i2
          cases hv1 : M.hexv s[2 * k] with
          | none =>
            have c1 := fun w => c_hexFind s[2 * k] w
            rw [hexI_none hv1] at c1
            have C1 := hid c1
            have C2 := hid (fun w => c_hexFind s[2 * k + 1] w)
            have HX := hid (show M.unhex s.data.toList = none from M.unhex_none _ (k + 1) (by simp; omega) (by rw [HU.out, HD.out, hv1]))
            clear hv1 c1
            go_wp2_with fail
            refine (C1.out _).mono ?_
            rintro e w' ⟨rfl, rfl⟩
            go_wp2_with fail
            refine (C2.out _).mono ?_
            rintro e w' ⟨rfl, rfl⟩
            go_wp2_with fail
            go_ret2
            exact ⟨.inl ⟨by rw [HP.out]; exact HX.out, rfl⟩, by exact obB⟩
          | some x =>
            have hx := M.hexv_lt _ _ hv1
            have c1 := fun w => c_hexFind s[2 * k] w
            rw [hexI_some hv1] at c1
            have C1 := hid c1
            clear c1
            cases hv2 : M.hexv s[2 * k + 1] with
            | none =>
              have c2 := fun w => c_hexFind s[2 * k + 1] w
              rw [hexI_none hv2] at c2
              have C2 := hid c2
              have HX := hid (show M.unhex s.data.toList = none from M.unhex_none _ (k + 1) (by simp; omega) (by rw [HU.out, HD.out, hv1, hv2]))
              clear hv1 hv2 c2
              go_wp2_with fail
              refine (C1.out _).mono ?_
              rintro e w' ⟨rfl, rfl⟩
              go_wp2_with fail
              refine (C2.out _).mono ?_
              rintro e w' ⟨rfl, rfl⟩
              go_wp2_with fail
              go_ret2
              exact ⟨.inl ⟨by rw [HP.out]; exact HX.out, rfl⟩, by exact obB⟩
            | some y =>
              have hy := M.hexv_lt _ _ hv2
              have c2 := fun w => c_hexFind s[2 * k + 1] w
              rw [hexI_some hv2] at c2
              have C2 := hid c2
              have HX := hid (show M.unhex (s.data.toList.take (2 * (k + 1))) = some (d ++ [UInt8.ofNat (16 * x + y)]) by rw [HU.out, HD.out, hv1, hv2])
              have HB := hid (show 16 * (x : Int) + (y : Int) = (((UInt8.ofNat (16 * x + y)).toNat : Nat) : Int) by rw [← byte_16 x y hx hy]; omega)
              clear hv1 hv2 c2
              go_wp2_with fail
              refine (C1.out _).mono ?_
              rintro e w' ⟨rfl, rfl⟩
              go_wp2_with fail
              refine (C2.out _).mono ?_
              rintro e w' ⟨rfl, rfl⟩
              go_wp2_with ((at_builtin; refine app_byte rfl _ _ 22 rfl w.heap.size 5 Tryz.underlying22 Tryz.info_u8b _ _ _ rfl hown _ _ HB.out 1 rfl (by omega) (by omega) ?_; intro v3 w3 hown3 hb3 hg3))
              go_roundw
              case rel => exact ⟨k + 1, d ++ [UInt8.ofNat (16 * x + y)], by omega, vint (by omega), hid HX.out, hown3, hbl.trans hb3⟩
              case measure => simp [intOf]; omega
        · have hcv := run_str (l := d) Tryz.underlying22 Tryz.underlying5 Tryz.underlying9 hown
          have HX := hid (show M.unhex s.data.toList = some d by rw [← HD.out, List.take_of_length_le (by simp; omega)])
          go_wp2
          go_ret2
          exact ⟨.inr ⟨d, by rw [HP.out]; exact HX.out, rfl⟩, by exact obB⟩
    · have b1 : (((s.size : Int) % 2) != 0) = false := ne_no (by omega)
      have HN := hid (parseHex_none_of s (by omega))
      go_enter Tryz.func38, Tryz.ntmps38
      go_wp2_with (at_make; refine make_bytes0 rfl _ _ 22 rfl w.heap.size 5 Tryz.underlying22 Tryz.info_u8b .i64 .i64 _ N rfl rfl (by omega) (by omega) (Nat.le_refl _) ?_; rintro v1 w1 rfl hown1 hb1 hg1)
      go_ret2
      exact ⟨.inl ⟨HN.out, rfl⟩, by exact obB⟩
  · have b1 : (((s.size : Int) % 2) != 0) = true := ne_yes (by omega)
    have HN := hid (parseHex_none_of s (by omega))
    go_enter Tryz.func38, Tryz.ntmps38
    go_wp2_with (at_make; refine make_bytes0 rfl _ _ 22 rfl w.heap.size 5 Tryz.underlying22 Tryz.info_u8b .i64 .i64 _ N rfl rfl (by omega) (by omega) (Nat.le_refl _) ?_; rintro v1 w1 rfl hown1 hb1 hg1)
    go_ret2
    exact ⟨.inl ⟨HN.out, rfl⟩, by exact obB⟩
end Go.Proofs.YtaiemogcboidhaaGreatDoor
