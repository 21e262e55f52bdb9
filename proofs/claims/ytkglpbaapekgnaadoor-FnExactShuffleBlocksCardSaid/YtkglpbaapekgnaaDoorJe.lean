/- ShuffleBlocks in the program, and its law's walk. The layout of the header and the errors are as the program's text lays them. -/
import Derived.Test.YtkglpbaapekgnaaDoorJd
import Derived.Test.YtkglpbaapekgnaaDoorJb
namespace Go.Proofs.YtkglpbaapekgnaaDoor
open Go.ChangeShapes Go.WideShapes Go.ChangeAt Go.RowKit Go.Joins
set_option linter.unusedVariables false
set_option linter.unusedSimpArgs false

/-- the array of the numbers that were taken -/
def TakenAt (w : World) (G : Nat) (o : List Int) (k : Nat) : Prop := Blk w G 82 ((sl 40 o k).map bov).toArray
def zt : Array Value := #[.bool false, .bool false, .bool false, .bool false, .bool false, .bool false, .bool false, .bool false, .bool false, .bool false, .bool false, .bool false, .bool false, .bool false, .bool false, .bool false, .bool false, .bool false, .bool false, .bool false, .bool false, .bool false, .bool false, .bool false, .bool false, .bool false, .bool false, .bool false, .bool false, .bool false, .bool false, .bool false, .bool false, .bool false, .bool false, .bool false, .bool false, .bool false, .bool false, .bool false]
theorem zero_taken : zt = ((List.replicate 40 false).map bov).toArray := by rfl
theorem taken_new (w : World) (o : List Int) : TakenAt (w.alloc (.cells zt 82)) w.heap.size o 0 := by
  rw [TakenAt, sl_zero, ← zero_taken]
  exact Blk.new w _ _
theorem TakenAt.cell {w : World} {G : Nat} {o : List Int} {k : Nat} (h : TakenAt w G o k) (m : Nat) (hm : m < 40) : w.cell? ⟨G, m, none⟩ = some (.bool (decide ((m : Int) ∈ o.take k))) := by
  have h1 : w.heap[G]? = some (.cells ((sl 40 o k).map bov).toArray 82 (0, 0)) := h
  have h2 := sl_get 40 o k m hm
  simp only [World.cell?, h1]
  simp [h2, bov]
theorem TakenAt.free {w : World} {G : Nat} {o : List Int} {k : Nat} (h : TakenAt w G o k) (m : Nat) : w.frozen? ⟨G, m, none⟩ = false := by
  have h1 : w.heap[G]? = some (.cells ((sl 40 o k).map bov).toArray 82 (0, 0)) := h
  simp [World.frozen?, h1]
theorem TakenAt.put {w : World} {G : Nat} {o : List Int} {k : Nat} (h : TakenAt w G o k) (m : Nat) (hm : m < 40) (hk : k < o.length) (ho : o[k] = (m : Int)) : TakenAt (w.setCell ⟨G, m, none⟩ (.bool true)) G o (k + 1) := by
  have h1 := Blk.set_ h m (.bool true)
  rw [List.setIfInBounds_toArray, show Value.bool true = bov true from rfl, ← List.map_set, sl_set 40 o k m hm hk ho] at h1
  exact h1

set_option maxHeartbeats 4000000 in
set_option maxRecDepth 100000 in
theorem c_Shuffle (S : ByteArray) (L : List UInt8) (x : List Bl) (c : Nat) (A0 : Option Addr) (q0 : Nat) (o : List Int) (w : World) (hS : S.size ≤ 1000000000000) (hL : L = S.data.toList) (hst : Stop L x c) (hO : NumsAt w w.heap.size A0 q0 o) (ho : o.length ≤ 1048576) {a0 a1 a2 : Addr} (hG : Glob w a0 a1 a2) (V0 : ByteArray) (b0 : Bool) (hy : shOk x c o → V0 = str (txt (sh x o)) ∧ b0 = true) (hno : ¬ shOk x c o → V0 = ByteArray.empty ∧ b0 = false) (h0 : c = 0) (h1 : o.length = x.length) : Calls Tryd.prog 44 #[.string S, .slice A0 o.length q0] w fun e w' => e = .returned (.tuple #[.string V0, .bool b0]) ∧ Below w.heap.size w w' := by
  subst h0
  have hx40 := hst.brd.len_le
  have hokx := hid hst.brd.okAll
  have HA := hid (c_rc_yes hS hL hst hG)
  have HLy := hid (fun (v : World) (hb : Below w.heap.size w v) => hG.lay.on hb)
  have HH := hid hO
  obtain ⟨N, hN⟩ : ∃ N, N = o.length := ⟨_, rfl⟩
  have HN := hid hN
  have HNx := hid (show N = x.length from hN.trans h1)
  rw [← HNx.out] at hx40
  have HY := hid hy
  have HNO := hid hno
  rw [← hN]
  clear hst hG hO h1 hN hy hno ho
  go_enter Tryd.func44, Tryd.ntmps44
  go_wp2_with fail
  refine (HA.out).mono ?_
  rintro e w1 ⟨A1, q1, A2, q2, rfl, o1, -, hb1⟩
  have hat := own_blsq o1
  have z1 := hb1.size
  rw [← HNx.out]
  clear o1
  have hRB := Blk.new w1 60 #[.slice none 0 0, .slice none 0 0, .int .i64 0, .int .i64 0]
  obtain ⟨r0, r1, r2, r3⟩ := hRB.cells4y
  have f0 := hRB.frozen 0
  have f1 := hRB.frozen 1
  have f2 := hRB.frozen 2
  have f3 := hRB.frozen 3
  clear hRB
  go_wp2_with fail
  clear r0 r1 r2 r3 f0 f1 f2 f3
  obtain ⟨V, hV⟩ : ∃ V, V = w1.alloc (.cells #[.slice A1 N q1, .slice A2 (pls x).length q2, .int .i64 ((txt x).length : Nat), .int .i64 (zs x : Nat)] 60) := ⟨_, rfl⟩
  have hbV : Below w1.heap.size w1 V := by rw [hV]; exact bel_alloc (Below.refl _ w1) _
  have X0 : Blk V w1.heap.size 60 #[.slice A1 N q1, .slice A2 (pls x).length q2, .int .i64 ((txt x).length : Nat), .int .i64 (zs x : Nat)] := by rw [hV]; exact Blk.new w1 _ _
  have zVe : V.heap.size = w1.heap.size + 1 := by rw [hV, World.size_alloc]
  rw [← hV]
  have zV := hbV.size
  have hlV := (Array.getElem?_eq_some_iff.1 X0).1
  have hbW := hb1.trans (hbV.mono z1)
  have hat1 := hid ((hat.below hbV (Nat.le_refl _)).up (L' := V.heap.size) zV)
  have HX0 := hid X0
  have HT0 := hid (taken_new V o)
  unfold zt at HT0
  rw [zVe] at HT0
  have hg1 : V.heap.size ≤ w1.heap.size + 1 := by omega
  obtain ⟨V2, hV2⟩ : ∃ V2, V2 = V.alloc (.cells #[.bool false, .bool false, .bool false, .bool false, .bool false, .bool false, .bool false, .bool false, .bool false, .bool false, .bool false, .bool false, .bool false, .bool false, .bool false, .bool false, .bool false, .bool false, .bool false, .bool false, .bool false, .bool false, .bool false, .bool false, .bool false, .bool false, .bool false, .bool false, .bool false, .bool false, .bool false, .bool false, .bool false, .bool false, .bool false, .bool false, .bool false, .bool false, .bool false, .bool false] 82) := ⟨_, rfl⟩
  have hbV2 : Below V.heap.size V V2 := by rw [hV2]; exact bel_alloc (Below.refl _ V) _
  rw [← hV2] at HT0 ⊢
  clear hV X0 hb1 hat hbV hV2 zVe
  go_loopw [9, 29] (fun v i wr => ∃ k : Nat, k ≤ N ∧ i = .int .i64 k ∧ Hid (∀ j, j < k → ordAt N o j) ∧ Hid (TakenAt wr (w1.heap.size + 1) o k) ∧ wr.ownsRow V.heap.size 27 4 v k (bvs (sh x (o.take k))) ∧ Below V.heap.size V wr) (fun _ i _ => N - (intOf i).toNat)
  case atStart => exact ⟨0, Nat.zero_le _, rfl, hid (fun j hj => by omega), HT0, by simpa [sh] using own_bls_nil V2 V.heap.size 27, hbV2⟩
  case round =>
    clear HT0 hbV2
    obtain ⟨k, hk, rfl, HOr, HTk, hown, hbl⟩ := hrel
    have hbWl := hbW.trans (hbl.mono hbW.size)
    by_cases hlt : k < N
    · have hlt2 : k < o.length := by have := HN.out; omega
      obtain ⟨b, off, hAo, hb, hc0⟩ := int_at (HH.out.below hbWl (Nat.le_refl _)) k hlt2
      have x0 := (HX0.out.below hbl hlV).cell 0
      obtain ⟨p, hp⟩ : ∃ p, p = o[k] := ⟨_, rfl⟩
      have HP := hid (show o[k]? = some p by rw [hp]; exact List.getElem?_eq_getElem hlt2)
      rw [← hp] at hc0
      have HPk := hid hp
      clear hp
      rw [hAo]
      by_cases h0 : p < 0
      · have hd1 : decide (p < 0) = true := decide_eq_true h0
        have HB := hid (HNO.out (fun hh => by have := (hh.2.2 k hlt2 p HP.out).1.1; omega))
        clear h0
        go_wp2_with fail
        go_ret2
        exact ⟨by rw [HB.out.1, HB.out.2]; rfl, hbWl⟩
      · have hd1 : decide (p < 0) = false := decide_eq_false h0
        by_cases h1 : p < (N : Int)
        · obtain ⟨m, rfl⟩ := Int.eq_ofNat_of_zero_le (show 0 ≤ p by omega)
          have hmN : m < N := by omega
          have hm40 : m < 40 := by omega
          have hmx : m < x.length := by have := HNx.out; omega
          have hd2 : decide ((N : Int) ≤ (m : Int)) = false := decide_eq_false (by omega)
          have hd3 : decide (N ≤ m) = false := decide_eq_false (by omega)
          have q0 := HTk.out.cell m hm40
          by_cases h2 : (m : Int) ∈ o.take k
          · rw [decide_eq_true h2] at q0
            have HB := hid (HNO.out (fun hh => (hh.2.2 k hlt2 _ HP.out).2 h2))
            clear h2 h0 h1
            go_wp2_with fail
            go_ret2
            exact ⟨by rw [HB.out.1, HB.out.2]; rfl, hbWl⟩
          · rw [decide_eq_false h2] at q0
            have ff0 := HTk.out.free m
            have HT2 := hid (HTk.out.put m hm40 hlt2 HPk.out.symm)
            have HO2 := hid (fun (j : Nat) (hj : j < k + 1) => show ordAt N o j by
              by_cases hjk : j < k
              · exact HOr.out j hjk
              · obtain rfl : j = k := by omega
                intro a ha
                rw [HP.out] at ha
                obtain rfl := Option.some.inj ha
                exact ⟨⟨by omega, by omega⟩, h2⟩)
            have HSh := hid (sh_take_succ x o k m hlt2 HPk.out.symm hmx)
            have n1 := own_away hown HTk.out (by decide)
            have hown2 := hid (ownsRow_setCell_other hown (a := ⟨w1.heap.size + 1, m, none⟩) (fun h => n1 h.symm) (.bool true))
            have hbs := bel_set hbl (p := ⟨w1.heap.size + 1, m, none⟩) hg1 (.bool true)
            obtain ⟨d, off2, hAb, hd, hd0, hd1, hd2, hd3⟩ := bl_at (hat1.out.below hbs (Nat.le_refl _)) m hmx
            obtain ⟨y, hy⟩ : ∃ y, y = x[m] := ⟨_, rfl⟩
            rw [← hy] at hd0 hd1 hd2 hd3 HSh
            have x1 := (HX0.out.below hbs hlV).cell 0
            rw [hAb] at x0 x1 ⊢
            obtain ⟨y0, y1, y2, y3⟩ := y
            simp only at hd0 hd1 hd2 hd3
            have hsz := hbs.size
            clear hy h2 h0 h1 hown
            go_wp2_with (at_builtin; refine app_bl rfl _ _ 37 rfl V.heap.size 27 Tryd.underlying37 Tryd.info_block _ k (sh x (o.take k)) rfl hown2.out ⟨y0, y1, y2, y3⟩ _ _ _ _ rfl 1 (by rw [World.size_setCell]; rfl) (by omega) hsz ?_; intro v4 w4 hown4 hb4 hg4)
            rw [← HSh.out] at hown4
            have HT3 := hid (show TakenAt w4 (w1.heap.size + 1) o (k + 1) from Blk.grown HT2.out hg4 n1)
            have hbl4 := hbs.trans hb4
            go_roundw
            case rel => exact ⟨k + 1, by omega, by go_num, HO2, HT3, hown4, hbl4⟩
            case measure => simp [intOf]; omega
        · have hd2 : decide ((N : Int) ≤ p) = true := decide_eq_true (by omega)
          have HB := hid (HNO.out (fun hh => by have := (hh.2.2 k hlt2 p HP.out).1.2; have := HNx.out; omega))
          clear h0 h1
          go_wp2_with fail
          go_ret2
          exact ⟨by rw [HB.out.1, HB.out.2]; rfl, hbWl⟩
    · have hkN : k = N := by omega
      have HE := hid (show o.take k = o from List.take_of_length_le (by have := HN.out; omega))
      rw [HE.out] at hown
      have HB := hid (HY.out ⟨rfl, by rw [← HN.out, ← HNx.out], fun j hj => by rw [← HNx.out]; exact HOr.out j (by have := HN.out; omega)⟩)
      obtain ⟨A', cap, rfl, hat, hkl⟩ := own_bls hown
      have HF := hid (c_containerBytes A' cap (sh x o) wr.heap.size wr hat (Nat.le_refl _) (by omega) (fun b hb => hokx.out b (sh_mem x o b hb)) (HLy.out wr hbWl))
      clear hkN hown hat hkl
      go_wp2_with fail
      refine (HF.out).mono ?_
      rintro e w4 ⟨rfl, hb4⟩
      go_wp2_with fail
      go_ret2
      exact ⟨by rw [HB.out.1, HB.out.2]; rfl, hbWl.trans (hb4.mono hbWl.size)⟩

set_option maxHeartbeats 4000000 in
set_option maxRecDepth 100000 in
theorem c_Shuffle_no (S : ByteArray) (L : List UInt8) (x : List Bl) (c : Nat) (A0 : Option Addr) (q0 : Nat) (o : List Int) (w : World) (hS : S.size ≤ 1000000000000) (hL : L = S.data.toList) (hst : Stop L x c) (hO : NumsAt w w.heap.size A0 q0 o) (ho : o.length ≤ 1048576) {a0 a1 a2 : Addr} (hG : Glob w a0 a1 a2) (hok : ¬ (c = 0 ∧ o.length = x.length)) : Calls Tryd.prog 44 #[.string S, .slice A0 o.length q0] w fun e w' => e = .returned (.tuple #[.string ByteArray.empty, .bool false]) ∧ Below w.heap.size w w' := by
  have hx40 := hst.brd.len_le
  by_cases h0 : c = 0
  · subst h0
    have HA := hid (c_rc_yes hS hL hst hG)
    have hd : (((o.length : Nat) : Int) == ((x.length : Nat) : Int)) = false := by rw [beq_eq_false_iff_ne]; omega
    clear hst hok hG
    go_enter Tryd.func44, Tryd.ntmps44
    go_wp2_with fail
    refine (HA.out).mono ?_
    rintro e w1 ⟨A1, q1, A2, q2, rfl, -, -, hb1⟩
    have hRB := Blk.new w1 60 #[.slice none 0 0, .slice none 0 0, .int .i64 0, .int .i64 0]
    obtain ⟨r0, r1, r2, r3⟩ := hRB.cells4y
    have f0 := hRB.frozen 0
    have f1 := hRB.frozen 1
    have f2 := hRB.frozen 2
    have f3 := hRB.frozen 3
    clear hRB
    go_wp2_with fail
    go_ret2
    exact ⟨rfl, by (repeat (first | with_reducible (first | assumption | exact Below.refl _ _ | refine bel_alloc ?_ _ | refine bel_drew ?_ | refine bel_drewN ?_ _ | refine bel_set ?_ (by first | omega | (simp; done) | (simp; omega)) _ | refine bel_trans ?_ (by assumption)) | assumption | refine bel_trans ?_ (by assumption)))⟩
  · have HA := hid (c_rc_no hS hL hst h0 hG)
    clear h0
    clear hst hok hG
    go_enter Tryd.func44, Tryd.ntmps44
    go_wp2_with fail
    refine (HA.out).mono ?_
    rintro e w1 ⟨xe, rfl, hb1⟩
    have hRB := Blk.new w1 60 #[.slice none 0 0, .slice none 0 0, .int .i64 0, .int .i64 0]
    obtain ⟨r0, r1, r2, r3⟩ := hRB.cells4y
    have f0 := hRB.frozen 0
    have f1 := hRB.frozen 1
    have f2 := hRB.frozen 2
    have f3 := hRB.frozen 3
    clear hRB
    go_wp2_with fail
    go_ret2
    exact ⟨rfl, by (repeat (first | with_reducible (first | assumption | exact Below.refl _ _ | refine bel_alloc ?_ _ | refine bel_drew ?_ | refine bel_drewN ?_ _ | refine bel_set ?_ (by first | omega | (simp; done) | (simp; omega)) _ | refine bel_trans ?_ (by assumption)) | assumption | refine bel_trans ?_ (by assumption)))⟩

/-- the numbers are int's -/
def NumsB (l : List Int) : Prop := ∀ x ∈ l, -9223372036854775808 ≤ x ∧ x ≤ 9223372036854775807
theorem nums_of {H : Type} {enc : TypeId × Value → H} {P : Program} {w : World} {base : Nat} {spare : Nat → Bool} {held : Bool} {t e : TypeId} {A : Option Addr} {n cap : Nat} {d : DataW H} {ps : List MemPlace}
    (ht : P.underlying t = some (.slice e)) (he : P.underlying e = some (.int .i64)) (hc : P.cellsOf e = 1)
    (h : DataW.Trod enc P w base spare held t (.slice A n cap) d ps) : ∃ l : List Int, n = l.length ∧ NumsAt w w.heap.size A cap l ∧ NumsB l := by
  obtain ⟨fuel, hf⟩ := h
  rcases open_ints ht he hc hf with ⟨hcs, _⟩ | ⟨a, l, c, zs, hcs, _, hl, hm, hz, _, hcell, hwz⟩
  · simp [Value.cells] at hcs
    obtain ⟨rfl, rfl, rfl⟩ := hcs
    exact ⟨[], rfl, NumsAt.nil _ _, fun x hx => by simp at hx⟩
  · simp [Value.cells] at hcs
    obtain ⟨rfl, rfl, rfl⟩ := hcs
    have hzl : n ≤ zs.length := by rw [hz]; split <;> omega
    have hlen : (zs.take n).length = n := by simp; omega
    refine ⟨zs.take n, hlen.symm, ⟨by rw [hlen]; exact hl, hm, by simp, fun hn => ?_⟩, fun x hx => wf_bounds (hwz x (List.mem_of_mem_take hx))⟩
    rw [hlen] at hn
    obtain ⟨b, off, spot⟩ := a
    have hc0 := hcell 0 (by omega)
    have hspot : spot = none := by simpa [Addr.add] using World.cell?_spot hc0
    subst hspot
    refine ⟨b, off, rfl, ?_, fun i p hi => ?_⟩
    · have := World.block_lt_of_cell? _ _ hc0
      simpa [Addr.add] using this
    · have hi2 := get_lt hi
      rw [hlen] at hi2
      have hci := hcell i (by omega)
      rw [List.getElem?_take, if_pos hi2] at hi
      rw [List.getD_eq_getElem?_getD, hi] at hci
      rw [← show ((⟨b, off, none⟩ : Addr).add i) = ⟨b, off + i, none⟩ by unfold Addr.add; split <;> simp_all]
      simpa using hci

set_option maxHeartbeats 4000000 in
set_option maxRecDepth 100000 in
theorem walk_FnExactShuffleBlocks (S : ByteArray) (l : List Int) (A : Option Addr) (cap : Nat) (w : World) (h_S : S.size ≤ maxLen) (hq : NumsAt w w.heap.size A cap l) (hqb : NumsB l) {a0 a1 a2 : Addr} (hG : Glob w a0 a1 a2) :
    Calls Tryd.prog 12 #[.string S, .slice A l.length cap] w fun e w' => e = .returned (.bool true) ∧ Below w.heap.size w w' := by
  by_cases big_S : 1048576 < S.size
  · unfold maxLen at *
    go_enter Tryd.func12, Tryd.ntmps12
    go_wp2_with fail
    go_ret
    exact ⟨rfl, by (repeat (first | with_reducible (first | assumption | exact Below.refl _ _ | refine bel_alloc ?_ _ | refine bel_drew ?_ | refine bel_drewN ?_ _ | refine bel_set ?_ (by first | omega | (simp; done) | (simp; omega)) _ | refine bel_trans ?_ (by assumption)) | assumption | refine bel_trans ?_ (by assumption)))⟩
  by_cases big_l : 1048576 < l.length
  · have hd : decide ((1048576 : Int) < (l.length : Int)) = true := decide_eq_true (by omega)
    unfold maxLen at *
    go_enter Tryd.func12, Tryd.ntmps12
    go_wp2_with fail
    go_ret
    exact ⟨rfl, by (repeat (first | with_reducible (first | assumption | exact Below.refl _ _ | refine bel_alloc ?_ _ | refine bel_drew ?_ | refine bel_drewN ?_ _ | refine bel_set ?_ (by first | omega | (simp; done) | (simp; omega)) _ | refine bel_trans ?_ (by assumption)) | assumption | refine bel_trans ?_ (by assumption)))⟩
  have hl : l.length ≤ 1048576 := by omega
  have hd : decide ((1048576 : Int) < (l.length : Int)) = false := decide_eq_false (by omega)
  obtain ⟨x, c, hst⟩ := stop_ex S.data.toList
  have key : ∃ V q, (∀ v A0 q0, NumsAt v v.heap.size A0 q0 l → Calls Tryd.prog 42 #[.string S, .slice A0 l.length q0] v fun e w' => e = .returned (.tuple #[.string V, .bool q]) ∧ Below v.heap.size v w') ∧ (∀ v A0 q0, NumsAt v v.heap.size A0 q0 l → Glob v a0 a1 a2 → Calls Tryd.prog 44 #[.string S, .slice A0 l.length q0] v fun e w' => e = .returned (.tuple #[.string V, .bool q]) ∧ Below v.heap.size v w') := by
    by_cases h : shOk x c l
    · exact ⟨_, _, fun v A0 q0 hO => c_sShuffle_yes S _ x c A0 q0 l v (by omega) rfl hst hO hl h, fun v A0 q0 hO hG => c_Shuffle S _ x c A0 q0 l v (by omega) rfl hst hO hl hG _ _ (fun _ => ⟨rfl, rfl⟩) (fun hn => absurd h hn) h.1 h.2.1⟩
    · refine ⟨_, _, fun v A0 q0 hO => c_sShuffle_no S _ x c A0 q0 l v (by omega) rfl hst hO hl h, fun v A0 q0 hO hG => ?_⟩
      by_cases h2 : c = 0 ∧ l.length = x.length
      · exact c_Shuffle S _ x c A0 q0 l v (by omega) rfl hst hO hl hG _ _ (fun hn => absurd hn h) (fun _ => ⟨rfl, rfl⟩) h2.1 h2.2
      · exact c_Shuffle_no S _ x c A0 q0 l v (by omega) rfl hst hO hl hG h2
  obtain ⟨V, q, k1, k2⟩ := key
  have HS := hid k1
  have HI := hid k2
  have HG := hid hG
  have HQ := hid hq
  have HTo := hid (fun (v : World) (hb : Below w.heap.size w v) => c_toIntS A cap l w.heap.size v (hq.below hb (Nat.le_refl _)) hb.size hl)
  clear hst hG k1 k2 hq hqb
  obtain ⟨N, hN⟩ : ∃ N, N = l.length := ⟨_, rfl⟩
  have HN := hid hN
  rw [← hN] at HS HI HTo hd ⊢
  rw [← hN] at hl big_l
  clear hN
  go_enter Tryd.func12, Tryd.ntmps12
  go_wp2_with fail
  refine (HTo.out _ (Below.refl _ _)).mono ?_
  rintro e w1 ⟨g1, rfl, own1, hb1⟩
  have at1 := own_ints_at own1
  have z1 := hb1.size
  go_wp2_with fail
  refine (HS.out _ _ _ at1).mono ?_
  rintro e w2 ⟨rfl, hb2⟩
  have hB2 := hb1.trans (hb2.mono z1)
  have z2 := hB2.size
  go_wp2_with fail
  refine (HTo.out _ hB2).mono ?_
  rintro e w3 ⟨g3, rfl, own3, hb3⟩
  have at3 := own_ints_at own3
  have hB3 := hB2.trans (hb3.mono z2)
  have z3 := hB3.size
  go_wp2_with fail
  refine (HI.out _ _ _ at3 (HG.out.on hB3)).mono ?_
  rintro e w4 ⟨rfl, hb4⟩
  have hB4 := hB3.trans (hb4.mono z3)
  have z4 := hB4.size
  have at4 := at3.below hb4 (Nat.le_refl _)
  go_wp2_with fail
  refine (HTo.out _ hB4).mono ?_
  rintro e w5 ⟨g5, rfl, own5, hb5⟩
  have at5 := own_ints_at own5
  have at45 := (at4.below hb5 hb4.size)
  have hB5 := hB4.trans (hb5.mono z4)
  go_wp2_with fail
  have hEq := c_eqIntS (some ⟨g3, 0, none⟩) (some ⟨g5, 0, none⟩) N N l w3.heap.size w5.heap.size w5 at45 at5 (Nat.le_trans hb4.size hb5.size) (Nat.le_refl _) (by rw [← HN.out]; exact hl)
  rw [← HN.out] at hEq
  refine hEq.mono ?_
  rintro e w6 ⟨rfl, hb6⟩
  go_wp2_with fail
  go_ret
  exact ⟨rfl, hB5.trans (hb6.mono hB5.size)⟩
end Go.Proofs.YtkglpbaapekgnaaDoor
