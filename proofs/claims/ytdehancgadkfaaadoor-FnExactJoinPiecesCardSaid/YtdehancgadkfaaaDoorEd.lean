/- LostNumbers in both programs, and its law's walk. The layout of the header is as the program's text lays it. -/
import Derived.Test.YtdehancgadkfaaaDoorEc
import Derived.Test.YtdehancgadkfaaaDoorTf
import Derived.Test.YtdehancgadkfaaaDoorYt
namespace Go.Proofs.YtdehancgadkfaaaDoor
open Go.ChangeShapes Go.WideShapes Go.ChangeAt Go.RowKit Go.Joins
set_option linter.unusedVariables false
set_option linter.unusedSimpArgs false

theorem own_nlq (W : World) (B : Nat) (hB : B ≤ W.heap.size) : (W.alloc (.cells #[] 3)).ownsRow B 3 1 (.slice (some ⟨W.heap.size, 0, none⟩) 0 0) 0 (([] : List Int).map iv) := World.ownsRow_made (e := 3) (size := 1) (base := B) W #[] 0 hB (by simp) (by simp [maxLen])
theorem own_grownQ {w w' : World} {B : Nat} {e : TypeId} {size n : Nat} {v : Value} {xs : List Value} {row : Option Nat} (h : w.ownsRow B e size v n xs) (hg : w.grownBy w' row) (hne : ∀ g, v.ownBlock = some g → row ≠ some g) : w'.ownsRow B e size v n xs :=
  h.kept hg (by
    cases hv : v.ownBlock with
    | none => exact .inl rfl
    | some g => exact .inr (fun h => hne g hv h.symm))

theorem emptyL (X : ByteArray) : X.toList.isEmpty = X.data.toList.isEmpty := by rw [ByteArray.toList_eq]
noncomputable def lostR (ps : List Qp) (c : Int) : List Int := if pcOk ps c then lostq ps c.toNat else []

set_option maxHeartbeats 4000000 in
set_option maxRecDepth 100000 in
theorem c_sLostNumbers (A : Option Addr) (cap : Nat) (ps : List Qp) (c : Int) (R : List Int) (L : Nat) (w : World) (h : QsAt w L A cap ps) (hB : QB ps) (hc : -9223372036854775808 ≤ c ∧ c ≤ 9223372036854775807) (hL : L ≤ w.heap.size) (hn : ps.length ≤ 1048576) (hR : R = lostR ps c) : Calls Tryd.prog 7 #[.slice A ps.length cap, .int .i64 c] w fun e w' => ∃ v, e = .returned v ∧ w'.ownsRow w.heap.size 3 1 v R.length (R.map iv) ∧ Below w.heap.size w w' := by
  have HP := hid (fun (v : World) (hb : Below w.heap.size w v) => c_l7Pieces A cap ps c L v (h.below hb hL) hB hc (Nat.le_trans hL hb.size) hn)
  have HH := hid (fun (n : Int) (v : World) (hb : Below w.heap.size w v) => c_l7Has A cap ps n L v (h.below hb hL) (Nat.le_trans hL hb.size) hn)
  have HE := hid (own_nlq w w.heap.size (Nat.le_refl _))
  have hal := hid (bel_alloc (Below.refl _ w) (.cells #[] 3))
  obtain ⟨N, hN⟩ : ∃ N, N = ps.length := ⟨_, rfl⟩
  rw [← hN] at HP HH ⊢
  by_cases hok : pcOk ps c
  · rw [decide_eq_true hok] at HP
    have hRe : R = lostq ps c.toNat := by rw [hR]; unfold lostR; rw [if_pos hok]
    obtain ⟨C, rfl⟩ := Int.eq_ofNat_of_zero_le hok.1.1
    rw [Int.toNat_natCast] at hRe
    have hC40 := hok.1.2
    have HRe := hid hRe
    clear hR hRe hok hN hn hB h hc
    go_enter Tryd.func7, Tryd.ntmps7
    go_wp2_with fail
    go_loopw [5, 6] (fun v i wr => ∃ k : Nat, k ≤ C ∧ i = .int .i64 k ∧ wr.ownsRow w.heap.size 3 1 v (lostq ps k).length ((lostq ps k).map iv) ∧ Below w.heap.size w wr) (fun _ i _ => C - (intOf i).toNat)
    case atStart => exact ⟨0, Nat.zero_le _, rfl, HE.out, hal.out⟩
    case round =>
      obtain ⟨k, hk, rfl, hown, hbl⟩ := hrel
      rename_i wr _
      by_cases hlt : k < C
      · have hlen := lostq_len ps k
        have hsz := hbl.size
        have HX := hid (HH.out (k : Int))
        obtain ⟨X, hX⟩ : ∃ X, X = hasq ps (k : Int) := ⟨_, rfl⟩
        rw [← hX] at HX
        cases he : X.toList.isEmpty with
        | true =>
          have HL := hid (lostq_yes ps k (by rw [← hX, ← emptyL]; exact he))
          clear hX
          have HO := hid hown
          clear hown
          go_wp2_with fail
          refine (HP.out _ hbl).mono ?_
          rintro e w1 ⟨rfl, hb1⟩
          have hbl1 := hbl.trans (hb1.mono hsz)
          go_wp2_with fail
          refine (HX.out _ hbl1).mono ?_
          rintro e w2 ⟨rfl, rfl⟩
          have hsz1 := hbl1.size
          have HO1 := hid (own_on HO.out hb1)
          go_wp2_with (at_builtin; refine app_int rfl _ _ 24 rfl w.heap.size 3 Tryd.underlying24 Tryd.info_int _ _ (lostq ps k) rfl HO1.out (k : Int) _ rfl 1 rfl (by omega) hsz1 ?_; intro v4 w4 hown4 hb4 hg4)
          have hz : (lostq ps k).length + 1 = (lostq ps (k + 1)).length := by rw [HL.out]; simp
          rw [hz, ← HL.out] at hown4
          go_roundw
          case rel => exact ⟨k + 1, by omega, by go_num, hown4, hbl1.trans hb4⟩
          case measure => simp [intOf]; omega
        | false =>
          have HL := hid (lostq_no ps k (by rw [← hX, ← emptyL]; exact he))
          clear hX
          have HO := hid hown
          clear hown
          go_wp2_with fail
          refine (HP.out _ hbl).mono ?_
          rintro e w1 ⟨rfl, hb1⟩
          have hbl1 := hbl.trans (hb1.mono hsz)
          go_wp2_with fail
          refine (HX.out _ hbl1).mono ?_
          rintro e w2 ⟨rfl, rfl⟩
          go_wp2_with fail
          go_roundw
          case rel => exact ⟨k + 1, by omega, by go_num, by rw [HL.out]; exact own_on HO.out hb1, hbl1⟩
          case measure => simp [intOf]; omega
      · obtain rfl : k = C := by omega
        rw [← HRe.out] at hown
        go_wp2_with fail
        go_ret
        exact ⟨_, rfl, hown, hbl⟩
  · rw [decide_eq_false hok] at HP
    have hRe : R = [] := by rw [hR]; unfold lostR; rw [if_neg hok]
    subst hRe
    clear hR hok hN hn hB h
    go_enter Tryd.func7, Tryd.ntmps7
    go_wp2_with fail
    go_loopw [5, 6] (fun v i wr => i = .int .i64 0 ∧ v = .slice (some ⟨w.heap.size, 0, none⟩) 0 0 ∧ wr = w.alloc (.cells #[] 3)) (fun _ _ _ => 0)
    case atStart => exact ⟨rfl, rfl, rfl⟩
    case round =>
      obtain ⟨rfl, rfl, rfl⟩ := hrel
      by_cases hlt : 0 < c
      · go_wp2_with fail
        refine (HP.out _ hal.out).mono ?_
        rintro e w1 ⟨rfl, hb1⟩
        have hbl1 := hal.out.trans (hb1.mono hal.out.size)
        go_wp2_with fail
        go_ret
        exact ⟨_, rfl, own_on HE.out hb1, hbl1⟩
      · go_wp2_with fail
        go_ret
        exact ⟨_, rfl, HE.out, hal.out⟩

theorem c_countValid (c : Int) (w : World) : Calls Tryd.prog 42 #[.int .i64 c] w fun e w' => e = .returned (.bool (inB c 0 40)) ∧ Below w.heap.size w w' := by
  by_cases h1 : 0 ≤ c
  · by_cases h2 : c ≤ 40
    all_goals
      go_enter Tryd.func42, Tryd.ntmps42
      go_wp2
      go_ret
      exact ⟨ret_bool (by simp [inB]; omega), by (repeat (first | with_reducible (first | assumption | exact Below.refl _ _ | refine bel_alloc ?_ _ | refine bel_drew ?_ | refine bel_drewN ?_ _ | refine bel_set ?_ (by first | omega | (simp; done) | (simp; omega)) _ | refine bel_trans ?_ (by assumption)) | assumption | refine bel_trans ?_ (by assumption)))⟩
  · go_enter Tryd.func42, Tryd.ntmps42
    go_wp2
    go_ret
    exact ⟨ret_bool (by simp [inB]; omega), by (repeat (first | with_reducible (first | assumption | exact Below.refl _ _ | refine bel_alloc ?_ _ | refine bel_drew ?_ | refine bel_drewN ?_ _ | refine bel_set ?_ (by first | omega | (simp; done) | (simp; omega)) _ | refine bel_trans ?_ (by assumption)) | assumption | refine bel_trans ?_ (by assumption)))⟩

/-- the number ahead of piece k -/
def lastq (ps : List Qp) (k : Nat) : Int := if k = 0 then -1 else q0 ps (k - 1)
theorem lay3c (w : World) (h : Lay w) : w.cell? ⟨0, 9, none⟩ = some (.int .i64 2) ∧ w.cell? ⟨0, 10, none⟩ = some (.int .i64 1) ∧ w.cell? ⟨0, 11, none⟩ = some (.int .i64 64) := by
  obtain ⟨t, h⟩ := h
  have hB : Blk w 0 t _ := h
  exact ⟨hB.cell 9, hB.cell 10, hB.cell 11⟩

set_option maxHeartbeats 8000000 in
set_option maxRecDepth 100000 in
theorem c_dataOfPieces_no0 (A : Option Addr) (cap n : Nat) (c : Int) (w : World) (hc : inB c 0 40 = false) : Calls Tryd.prog 26 #[.slice A n cap, .int .i64 c] w fun e w' => e = .returned (.tuple #[.slice none 0 0, .bool false]) ∧ Below w.heap.size w w' := by
  have HC := hid (fun v => c_countValid c v)
  rw [hc] at HC
  clear hc
  go_enter Tryd.func26, Tryd.ntmps26
  go_wp2_with fail
  refine (HC.out _).mono ?_
  rintro e w1 ⟨rfl, hb1⟩
  go_wp2_with fail
  go_ret2
  exact ⟨rfl, hb1⟩

set_option maxHeartbeats 8000000 in
set_option maxRecDepth 100000 in
theorem c_dataOfPieces (A : Option Addr) (cap : Nat) (ps : List Qp) (C : Nat) (L : Nat) (w : World) (h : QsAt w L A cap ps) (hB : QB ps) (hC : C ≤ 40) (hL : L ≤ w.heap.size) (hn : ps.length ≤ 1048576) (hLy : Lay w) : Calls Tryd.prog 26 #[.slice A ps.length cap, .int .i64 C] w fun e w' => (pcOk ps C → ∃ G, e = .returned (.tuple #[.slice (some ⟨G, 0, none⟩) C C, .bool true]) ∧ w'.ownsRow w.heap.size 9 1 (.slice (some ⟨G, 0, none⟩) C C) C ((datas ps C).map sv)) ∧ (¬ pcOk ps C → e = .returned (.tuple #[.slice none 0 0, .bool false])) ∧ Below w.heap.size w w' := by
  obtain ⟨N, hN⟩ : ∃ N, N = ps.length := ⟨_, rfl⟩
  have HN := hid hN
  rw [← hN] at hn ⊢
  have HCV := hid (fun v => c_countValid (C : Int) v)
  rw [show inB (C : Int) 0 40 = true from inB_iff.2 (by omega)] at HCV
  obtain ⟨ok, hok⟩ : ∃ ok : Prop, ok = pcOk ps C := ⟨_, rfl⟩
  rw [← hok]
  have HK := hid hok
  have HNO := hid (fun (i : Nat) (hi : i < ps.length) (hs : ¬ pcStep ps ((C : Int) - 1) i) => (show ¬ ok from by rw [HK.out]; exact fun hp => hs (hp.2 i hi)))
  clear hN hok
  have HLy := hid hLy
  clear hLy
  go_enter Tryd.func26, Tryd.ntmps26
  go_wp2_with fail
  refine (HCV.out _).mono ?_
  rintro e w0 ⟨rfl, hb0⟩
  have hz0 := hb0.size
  go_wp2_with (at_make; refine make_strs rfl _ _ 36 rfl w.heap.size 9 Tryd.underlying36 Tryd.info_txt .i64 .i64 _ _ C rfl rfl (by omega) (by omega) (by omega) hz0 ?_; intro w1 hown1 hb1 hg1)
  have hb01 := hb0.trans hb1
  obtain ⟨G, hG⟩ : ∃ G, G = w0.heap.size := ⟨_, rfl⟩
  rw [← hG] at hown1 ⊢
  clear hG hb1 hg1
  go_loopw [7, 17] (fun v i wr => ∃ k : Nat, k ≤ N ∧ i = .int .i64 k ∧ v = .int .i64 (lastq ps k) ∧ Hid (∀ i, i < k → pcStep ps ((C : Int) - 1) i) ∧ wr.ownsRow w.heap.size 9 1 (.slice (some ⟨G, 0, none⟩) C C) C ((datas (ps.take k) C).map sv) ∧ Below w.heap.size w wr) (fun _ i _ => N - (intOf i).toNat)
  case atStart => exact ⟨0, Nat.zero_le _, rfl, rfl, hid (fun i hi => by omega), by rw [List.take_zero, datas_nil]; exact hown1, hb01⟩
  case round =>
    obtain ⟨k, hk, rfl, rfl, HS0, hown, hbl⟩ := hrel
    rename_i wr _
    by_cases hlt : k < N
    · have hlt2 : k < ps.length := by have := HN.out; omega
      obtain ⟨b, off, rfl, hb, hc0, hcc1⟩ := qp_at (h.below hbl hL) k hlt2
      obtain ⟨hp1, hp2⟩ := hB k _ (List.getElem?_eq_getElem hlt2)
      obtain ⟨x, hx⟩ : ∃ x, x = ps[k].1 := ⟨_, rfl⟩
      obtain ⟨d, hd⟩ : ∃ d, d = ps[k].2 := ⟨_, rfl⟩
      rw [← hx] at hc0 hp1
      rw [← hd] at hcc1 hp2
      have HX := hid (show q0 ps k = x by rw [(q_at k hlt2).1, hx])
      have HY := hid (show q1 ps k = d by rw [(q_at k hlt2).2, hd])
      unfold maxLen at hp2
      have HLT := hid hlt2
      clear hx hd hlt2
      have HBL := hid hbl
      have HO := hid hown
      have HLw := hid (HLy.out.on (hbl.mono (Nat.le_refl _)))
      obtain ⟨u, hu⟩ : ∃ u, u = lastq ps k := ⟨_, rfl⟩
      have HU := hid hu
      rw [← hu]
      clear hu
      have kP := Blk.new wr 47 #[.int .i64 0, .string ByteArray.empty]
      have kp0 := kP.cell 0
      have kp1 := kP.cell 1
      have fp0 := kP.frozen 0
      have fp1 := kP.frozen 1
      have hlay := lay3c _ HLw.out
      clear kP
      have hlz : 0 < wr.heap.size := by obtain ⟨t, h9⟩ := HLw.out; exact Blk.lt (t := t) h9
      have hszr := hbl.size
      have hbn : Below wr.heap.size wr (wr.alloc (.cells #[.int .i64 x, .string d] 47)) := bel_alloc (Below.refl _ wr) _
      have HBN := hid (hbl.trans (hbn.mono hszr))
      have hub : -1 ≤ u := by
        rw [HU.out]; unfold lastq; split
        · omega
        · have := (HS0.out (k - 1) (by omega)).1; omega
      have HUK := hid (show u < x → 0 ≤ x ∧ (0 < k → q0 ps (k - 1) < x) from fun hlt => ⟨by omega, fun h0 => by rw [HU.out] at hlt; unfold lastq at hlt; rw [if_neg (by omega)] at hlt; exact hlt⟩)
      have HUN := hid (show x ≤ u → ¬ pcStep ps ((C : Int) - 1) k from fun hxu hs => by
        have h1 := hs.1.1
        have h2 := hs.2.1
        rw [HX.out] at h1 h2
        rw [HU.out] at hxu
        unfold lastq at hxu
        split at hxu
        · omega
        · have := h2 (by omega); omega)
      obtain ⟨s, hs⟩ : ∃ s, s = inB (d.size : Int) 1 64 := ⟨_, rfl⟩
      have HS := hid hs
      have HA := hid (fun v => (show Calls Tryd.prog 31 #[.agg #[.int .i64 2, .int .i64 1, .int .i64 64], .int .i64 (d.size : Nat)] v (fun e w' => e = .returned (.bool s) ∧ Below v.heap.size v w') from by rw [hs]; exact c_allows 2 1 64 _ v))
      clear hs hown hbl
      by_cases hxu : x ≤ u
      · have HR := hid (HNO.out k HLT.out (HUN.out hxu))
        have hdx : decide (x ≤ u) = true := decide_eq_true hxu
        clear hxu
        go_wp2_with fail
        go_ret2
        exact ⟨fun h => absurd h HR.out, fun _ => rfl, HBN.out⟩
      · have hdx : decide (x ≤ u) = false := decide_eq_false hxu
        have HX2 := hid (HUK.out (by omega))
        clear hxu
        by_cases hcx : (C : Int) ≤ x
        · have HR := hid (HNO.out k HLT.out (fun hs => by have := hs.1.2; rw [HX.out] at this; omega))
          have hdc : decide ((C : Int) ≤ x) = true := decide_eq_true hcx
          clear hcx
          go_wp2_with fail
          go_ret2
          exact ⟨fun h => absurd h HR.out, fun _ => rfl, HBN.out⟩
        · have hdc : decide ((C : Int) ≤ x) = false := decide_eq_false hcx
          have HCX := hid (show x < (C : Int) by omega)
          clear hcx
          cases s with
          | false =>
            have HR := hid (HNO.out k HLT.out (fun hs => by have := hs.2.2; rw [HY.out] at this; have h9 := HS.out; rw [inB_iff.2 (by omega)] at h9; cases h9))
            go_wp2_with fail
            refine (HA.out _).mono ?_
            rintro e w2 ⟨rfl, hb2⟩
            go_wp2_with fail
            go_ret2
            exact ⟨fun h => absurd h HR.out, fun _ => rfl, HBN.out.trans (hb2.mono HBN.out.size)⟩
          | true =>
            have HT := hid (show 1 ≤ d.size ∧ d.size ≤ 64 by have := inB_iff.1 HS.out.symm; omega)
            have HS2 := hid (show ∀ i, i < k + 1 → pcStep ps ((C : Int) - 1) i from fun i hi => by
              by_cases hij : i = k
              · subst hij
                exact ⟨by rw [HX.out]; have := HX2.out.1; have := HCX.out; omega, fun h => by rw [HX.out]; exact HX2.out.2 h, by rw [HY.out]; exact HT.out⟩
              · exact HS0.out i (by omega))
            obtain ⟨X, rfl⟩ := Int.eq_ofNat_of_zero_le HX2.out.1
            have hXC : X < C := by have := HCX.out; omega
            have hXC2 : (X : Int) < (C : Int) := by omega
            have HD := hid (datas_set (ps := ps) C k X HLT.out HS2.out HX.out.symm hXC)
            have HE := hid (datas_get (ps.take k) C X hXC)
            obtain ⟨y, hy⟩ : ∃ y, y = hasq (ps.take k) (X : Int) := ⟨_, rfl⟩
            rw [← hy] at HE
            have HLL := hid (show (X : Int) = lastq ps (k + 1) by unfold lastq; rw [if_neg (by omega), Nat.add_sub_cancel, HX.out])
            clear hy
            go_wp2_with fail
            refine (HA.out _).mono ?_
            rintro e w2 ⟨rfl, hb2⟩
            have hO2 := own_on (own_on HO.out hbn) hb2
            have kP2 := (Blk.new wr 47 #[.int .i64 X, .string d]).on hb2
            have g0 := kP2.cell 0
            have g1 := kP2.cell 1
            have q0 := own_txt hO2 X y HE.out
            have f0 := hO2.frozenAt X
            have hst := own_store_txt hO2 X d
            have hneG : G ≠ wr.heap.size := by have := (own_lt HO.out).2; omega
            have hB2 := HBN.out.trans (hb2.mono HBN.out.size)
            have hB3 := below_of_grown (grown_set (grown_refl w2 (some G)) X (.string d)) hB2.size (fun g e => by obtain rfl := Option.some.inj e; exact (own_lt HO.out).1)
            have hB4 := hid (hB2.trans hB3)
            rw [← HY.out] at hst
            rw [HD.out, HY.out] at hst
            have HST := hid hst
            clear hst hO2 hB2 hB3 kp0 kp1 fp0 fp1 kP2
            go_wp2_with fail
            go_roundw
            case rel => exact ⟨k + 1, by omega, by go_num, by rw [HLL.out], HS2, HST.out, hB4.out⟩
            case measure => simp [intOf]; omega
    · have HR := hid (show ok by
        rw [HK.out]
        exact ⟨by omega, fun i hi => HS0.out i (by have := HN.out; omega)⟩)
      have HE2 := hid (show datas (ps.take k) C = datas ps C by rw [List.take_of_length_le (by have := HN.out; omega)])
      rw [HE2.out] at hown
      go_wp2_with fail
      go_ret2
      exact ⟨fun _ => ⟨G, rfl, hown⟩, fun h => absurd HR.out h, hbl⟩

set_option maxHeartbeats 8000000 in
set_option maxRecDepth 100000 in
theorem c_LostNumbers (A : Option Addr) (cap : Nat) (ps : List Qp) (c : Int) (R : List Int) (L : Nat) (w : World) (h : QsAt w L A cap ps) (hB : QB ps) (hc : -9223372036854775808 ≤ c ∧ c ≤ 9223372036854775807) (hL : L ≤ w.heap.size) (hn : ps.length ≤ 1048576) (hLy : Lay w) (hR : R = lostR ps c) : Calls Tryd.prog 9 #[.slice A ps.length cap, .int .i64 c] w fun e w' => ∃ v, e = .returned v ∧ w'.ownsRow w.heap.size 3 1 v R.length (R.map iv) ∧ Below w.heap.size w w' := by
  have hno : ∀ (hR : R = []) (HD : Hid (Calls Tryd.prog 26 #[.slice A ps.length cap, .int .i64 c] w fun e w' => e = .returned (.tuple #[.slice none 0 0, .bool false]) ∧ Below w.heap.size w w')), Calls Tryd.prog 9 #[.slice A ps.length cap, .int .i64 c] w fun e w' => ∃ v, e = .returned v ∧ w'.ownsRow w.heap.size 3 1 v R.length (R.map iv) ∧ Below w.heap.size w w' := by
    intro hR HD
    subst hR
    clear hB h hLy hn
    go_enter Tryd.func9, Tryd.ntmps9
    go_wp2_with fail
    refine (HD.out).mono ?_
    rintro e w1 ⟨rfl, hb1⟩
    go_wp2_with fail
    go_loopw [7, 18] (fun v i wr => v = .slice none 0 0 ∧ i = .int .i64 0 ∧ wr = w1) (fun _ _ _ => 0)
    case atStart => exact ⟨rfl, rfl, rfl⟩
    case round =>
      obtain ⟨rfl, rfl, rfl⟩ := hrel
      go_wp2_with fail
      go_ret
      exact ⟨_, rfl, own_ints_nil _ _ _, hb1⟩
  by_cases hin : inB c 0 40 = true
  · have hc40 := inB_iff.1 hin
    obtain ⟨C, rfl⟩ := Int.eq_ofNat_of_zero_le hc40.1
    have HD0 := c_dataOfPieces A cap ps C L w h hB (by omega) hL hn hLy
    by_cases hok : pcOk ps C
    · have HD := hid (HD0.mono fun e w' h9 => (show (∃ G, e = .returned (.tuple #[.slice (some ⟨G, 0, none⟩) C C, .bool true]) ∧ w'.ownsRow w.heap.size 9 1 (.slice (some ⟨G, 0, none⟩) C C) C ((datas ps C).map sv)) ∧ Below w.heap.size w w' from ⟨h9.1 hok, h9.2.2⟩))
      have hRe : R = lostq ps C := by rw [hR]; unfold lostR; rw [if_pos hok, Int.toNat_natCast]
      have HRe := hid hRe
      have hC40 : C ≤ 40 := by omega
      clear hno HD0 hR hRe hok hB h hLy hn hin hc40 hc
      go_enter Tryd.func9, Tryd.ntmps9
      go_wp2_with fail
      refine (HD.out).mono ?_
      rintro e w1 ⟨⟨G, rfl, hown0⟩, hb1⟩
      have HO := hid hown0
      have hG := hown0.lt G rfl
      have hz1 := hb1.size
      clear hown0
      go_wp2_with fail
      go_loopw [7, 18] (fun v i wr => ∃ k : Nat, k ≤ C ∧ i = .int .i64 k ∧ wr.ownsRow w1.heap.size 3 1 v (lostq ps k).length ((lostq ps k).map iv) ∧ Below w1.heap.size w1 wr) (fun _ i _ => C - (intOf i).toNat)
      case atStart => exact ⟨0, Nat.zero_le _, rfl, own_ints_nil _ _ _, Below.refl _ _⟩
      case round =>
        obtain ⟨k, hk, rfl, hown, hbl⟩ := hrel
        rename_i wr _
        by_cases hlt : k < C
        · have hlen := lostq_len ps k
          have hsz := hbl.size
          have hkC : (k : Int) < (C : Int) := by omega
          obtain ⟨X, hX⟩ : ∃ X, X = hasq ps (k : Int) := ⟨_, rfl⟩
          have q0 := own_txt (own_on HO.out hbl) k X (by rw [datas_get ps C k hlt, hX])
          have HO1 := hid hown
          clear hown
          cases he : X.toList.isEmpty with
          | true =>
            have HL := hid (lostq_yes ps k (by rw [← hX, ← emptyL]; exact he))
            clear hX
            go_wp2_with (at_builtin; refine app_int rfl _ _ 24 rfl w1.heap.size 3 Tryd.underlying24 Tryd.info_int _ _ (lostq ps k) rfl HO1.out (k : Int) _ rfl 1 rfl (by omega) hsz ?_; intro v4 w4 hown4 hb4 hg4)
            have hz : (lostq ps k).length + 1 = (lostq ps (k + 1)).length := by rw [HL.out]; simp
            rw [hz, ← HL.out] at hown4
            go_roundw
            case rel => exact ⟨k + 1, by omega, by go_num, hown4, hbl.trans hb4⟩
            case measure => simp [intOf]; omega
          | false =>
            have HL := hid (lostq_no ps k (by rw [← hX, ← emptyL]; exact he))
            clear hX
            go_wp2_with fail
            go_roundw
            case rel => exact ⟨k + 1, by omega, by go_num, by rw [HL.out]; exact HO1.out, hbl⟩
            case measure => simp [intOf]; omega
        · obtain rfl : k = C := by omega
          rw [← HRe.out] at hown
          go_wp2_with fail
          go_ret
          exact ⟨_, rfl, own_mono hown hz1, hb1.trans (hbl.mono hz1)⟩
    · exact hno (by rw [hR]; unfold lostR; rw [if_neg hok]) (hid (HD0.mono fun e w' h9 => ⟨h9.2.1 hok, h9.2.2⟩))
  · exact hno (by rw [hR]; unfold lostR; rw [if_neg (fun h9 => hin (inB_iff.2 h9.1))]) (hid (c_dataOfPieces_no0 A cap _ c w (by simpa using hin)))

set_option maxHeartbeats 4000000 in
set_option maxRecDepth 100000 in
theorem walk_FnExactLostNumbers (ps : List Qp) (A : Option Addr) (cap : Nat) (c : Int) (w : World) (hps : QsAt w w.heap.size A cap ps) (hB : QB ps) (h_c : -9223372036854775808 ≤ c ∧ c ≤ 9223372036854775807) (hLy : Lay w) :
    Calls Tryd.prog 3 #[.slice A ps.length cap, .int .i64 c] w fun e w' => e = .returned (.bool true) ∧ Below w.heap.size w w' := by
  by_cases big : (1048576 : Int) < ps.length + qtot ps
  · have HZ := hid (c_szPieceS_no A cap ps w.heap.size 1048576 w hps hB (Nat.le_refl _) (by omega) (by omega) big)
    clear hps hB big hLy
    go_enter Tryd.func3, Tryd.ntmps3
    go_wp2_with fail
    refine (HZ.out).mono ?_
    rintro e w1 ⟨rfl, hb1⟩
    go_wp2_with fail
    go_ret
    exact ⟨rfl, hb1⟩
  have hn : ps.length ≤ 1048576 := by omega
  have HZ := hid (c_szPieceS_yes A cap ps w.heap.size 1048576 w hps (Nat.le_refl _) (by omega) (by omega))
  have hpos : ¬ ((1048576 : Int) - ps.length - qtot ps < 0) := by omega
  obtain ⟨Zq, hZq⟩ : ∃ Zq, Zq = (1048576 : Int) - ps.length - qtot ps := ⟨_, rfl⟩
  rw [← hZq] at HZ hpos
  clear hZq big
  obtain ⟨N, hN⟩ : ∃ N, N = ps.length := ⟨_, rfl⟩
  have HT := hid (fun (v : World) (hb : Below w.heap.size w v) => c_toPieceS A cap ps w.heap.size v (hps.below hb (Nat.le_refl _)) hb.size hn)
  obtain ⟨R, hR⟩ : ∃ R, R = lostR ps c := ⟨_, rfl⟩
  have HS := hid (fun (A : Option Addr) (cap : Nat) (v : World) (h : QsAt v v.heap.size A cap ps) => c_sLostNumbers A cap ps c R v.heap.size v h hB h_c (Nat.le_refl _) hn hR)
  have HI := hid (fun (A : Option Addr) (cap : Nat) (v : World) (h : QsAt v v.heap.size A cap ps) (hb : Below w.heap.size w v) => c_LostNumbers A cap ps c R v.heap.size v h hB h_c (Nat.le_refl _) hn (hLy.on hb) hR)
  have HEP := hid (fun (A A2 : Option Addr) (cap cap2 : Nat) (v : World) (h : QsAt v v.heap.size A cap ps) (h2 : QsAt v v.heap.size A2 cap2 ps) => c_eqPieceS A A2 cap cap2 ps v.heap.size v.heap.size v h h2 (Nat.le_refl _) (Nat.le_refl _) hn)
  have HM := hid (fun (B G cap : Nat) (v : World) (h : v.ownsRow B 47 2 (.slice (some ⟨G, 0, none⟩) ps.length cap) ps.length (qvs ps)) => c_markPieceS B G cap ps v h hn)
  have hnR : R.length ≤ 40 := by
    rw [hR]; unfold lostR
    split
    · rename_i hok; have := lostq_len ps c.toNat; have := hok.1; omega
    · simp
  rw [← hN] at HZ HT HS HI HEP HM hn ⊢
  have hnR2 : R.length ≤ 1048576 := by omega
  clear hR hB hps hLy hN h_c
  go_enter Tryd.func3, Tryd.ntmps3
  go_wp2_with fail
  refine (HZ.out).mono ?_
  rintro e w1 ⟨rfl, hB1⟩
  clear HZ
  go_wp2_with fail
  refine (HT.out _ hB1).mono ?_
  rintro e w2 ⟨g2, rfl, ownt, hb2⟩
  have hB2 := hB1.trans (hb2.mono hB1.size)
  have HQ := hid (own_qsq ownt)
  clear ownt hb2 hB1
  go_wp2_with fail
  refine (HS.out _ _ _ HQ.out).mono ?_
  rintro e w3 ⟨v3, rfl, own0, hb3⟩
  obtain ⟨A0, c0, rfl, _, _, _⟩ := own_ints own0
  have z2 := hB2.size
  have hB3 := hB2.trans (hb3.mono z2)
  have z3 := hB3.size
  clear HQ hb3 hB2
  go_wp2_with fail
  refine (HT.out _ hB3).mono ?_
  rintro e w4 ⟨g4, rfl, ownx, hb4⟩
  have own04 := own_on own0 hb4
  have hB4 := hB3.trans (hb4.mono z3)
  have z4 := hb4.size
  have sep0 := hid (fun g (e0 : (Value.slice A0 R.length c0).ownBlock = some g) (e1 : some g4 = some g) => (absurd (own0.lt g e0).2 (by have := (own_lt ownx).1; simp at e1; omega) : False))
  clear own0 hb4 hB3
  go_wp2_with fail
  refine (HI.out _ _ _ (own_qsq ownx) hB4).mono ?_
  rintro e w5 ⟨v5, rfl, own1, hb5⟩
  obtain ⟨A1, c1, rfl, _, _, _⟩ := own_ints own1
  have hB5 := hB4.trans (hb5.mono hB4.size)
  have z5 := hb5.size
  have own05 := own_on own04 hb5
  have ownx5 := own_on ownx hb5
  have sep1 := hid (fun g (e0 : (Value.slice A1 R.length c1).ownBlock = some g) (e1 : some g4 = some g) => (absurd (own_lt ownx).2 (by have := (own1.lt g e0).1; simp at e1; omega) : False))
  have sep := hid (fun g (e0 : (Value.slice A0 R.length c0).ownBlock = some g) (e1 : (Value.slice A1 R.length c1).ownBlock = some g) => (absurd (own04.lt g e0).2 (by have := (own1.lt g e1).1; omega) : False))
  clear own04 ownx hb5 hB4
  go_wp2_with fail
  refine (c_eqIntS A1 A0 c1 c0 R _ _ _ (own_ints_at own1) (own_ints_at own05) (Nat.le_refl _) (Nat.le_refl _) hnR2).mono ?_
  rintro e w6 ⟨rfl, hb6⟩
  have hB6 := hB5.trans (hb6.mono hB5.size)
  have own06 := own_on own05 hb6
  have own16 := own_on own1 hb6
  have ownx6 := own_on ownx5 hb6
  clear hB5 own05 own1 ownx5 hb6
  go_wp2_with fail
  refine (HT.out _ hB6).mono ?_
  rintro e w7 ⟨g7, rfl, owny, hb7⟩
  have hB7 := hB6.trans (hb7.mono hB6.size)
  have own07 := own_on own06 hb7
  have own17 := own_on own16 hb7
  have ownx7 := own_on ownx6 hb7
  clear hB6 own06 own16 ownx6 hb7
  go_wp2_with fail
  refine (HEP.out _ _ _ _ _ (own_qsq ownx7) (own_qsq owny)).mono ?_
  rintro e w8 ⟨rfl, hb8⟩
  have hB8 := hB7.trans (hb8.mono hB7.size)
  have own08 := own_on own07 hb8
  have own18 := own_on own17 hb8
  have ownx8 := own_on ownx7 hb8
  clear hB7 own07 own17 ownx7 owny hb8
  go_wp2_with fail
  refine (HM.out _ _ _ _ ownx8).mono ?_
  rintro e w9 ⟨rfl, hg9⟩
  have hB9 := hB8.trans (below_of_grown hg9 hB8.size (fun g e => by obtain rfl := Option.some.inj e; have := (own_lt ownx8).1; omega))
  have own09 := own_grownQ own08 hg9 (fun g e0 e1 => sep0.out g e0 e1)
  have own19 := own_grownQ own18 hg9 (fun g e0 e1 => sep1.out g e0 e1)
  clear hB8 own08 own18 ownx8 hg9
  go_wp2_with fail
  refine (c_eqIntS A1 A0 c1 c0 R _ _ _ (own_ints_at own19) (own_ints_at own09) (Nat.le_refl _) (Nat.le_refl _) hnR2).mono ?_
  rintro e w10 ⟨rfl, hb10⟩
  have hB10 := hB9.trans (hb10.mono hB9.size)
  have own010 := own_on own09 hb10
  have own110 := own_on own19 hb10
  clear hB9 own09 own19 hb10
  go_wp2_with fail
  refine (c_markIntS_any R 1 _ c1 A1 _ own110 hnR2 (by omega) (by omega)).mono ?_
  rintro e w11 ⟨rfl, own111, hg11⟩
  have hB11 := hB10.trans (below_of_grown hg11 hB10.size (fun g e => by have := (own110.lt g e).1; have := hB10.size; omega))
  have own011 := own_grownQ own010 hg11 (fun g e0 e1 => sep.out g e0 e1)
  clear hB10 own010 own110 hg11
  go_wp2_with fail
  refine (c_heldIntS _ A1 c1 R.length 1 _ (own_ints_at own111) hnR2 (by omega) (by omega)).mono ?_
  rintro e w12 ⟨rfl, rfl⟩
  go_wp2_with fail
  refine (HT.out _ hB11).mono ?_
  rintro e w13 ⟨g13, rfl, ownz, hb13⟩
  have hB13 := hB11.trans (hb13.mono hB11.size)
  have own013 := own_on own011 hb13
  have own113 := own_on own111 hb13
  clear hB11 own011 own111 hb13
  go_wp2_with fail
  refine (HI.out _ _ _ (own_qsq ownz) hB13).mono ?_
  rintro e w14 ⟨v14, rfl, own2, hb14⟩
  obtain ⟨A2, c2, rfl, _, _, _⟩ := own_ints own2
  have hB14 := hB13.trans (hb14.mono hB13.size)
  have own014 := own_on own013 hb14
  have own114 := own_on own113 hb14
  clear hB13 own013 own113 ownz hb14
  go_wp2_with fail
  refine (c_eqIntS A2 A0 c2 c0 R _ _ _ (own_ints_at own2) (own_ints_at own014) (Nat.le_refl _) (Nat.le_refl _) hnR2).mono ?_
  rintro e w15 ⟨rfl, hb15⟩
  have hB15 := hB14.trans (hb15.mono hB14.size)
  have own115 := own_on own114 hb15
  clear hB14 own014 own114 own2 hb15
  go_wp2_with fail
  refine (c_heldIntS _ A1 c1 R.length 1 _ (own_ints_at own115) hnR2 (by omega) (by omega)).mono ?_
  rintro e w16 ⟨rfl, rfl⟩
  go_wp2_with fail
  go_ret
  exact ⟨rfl, hB15⟩
end Go.Proofs.YtdehancgadkfaaaDoor
