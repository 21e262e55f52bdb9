/- Contracts of the model's own drawing: one of some texts; data. -/
import Derived.Test.YtaiemogcboidhaaGreatDoorDraw9
import Derived.Test.YtaiemogcboidhaaGreatDoorBa
import Derived.Test.YtaiemogcboidhaaGreatDoorWfn8m
import Derived.Test.YtaiemogcboidhaaGreatDoorYn
namespace Go.Proofs.YtaiemogcboidhaaGreatDoor
open Go.ChangeShapes Go.WideShapes Go.ChangeAt Go.RowKit Go.Joins
set_option linter.unusedVariables false
set_option linter.unusedSimpArgs false

def TxsAt (w : World) (g : Nat) (l : List ByteArray) : Prop := ∀ i x, l[i]? = some x → w.cell? ⟨g, i, none⟩ = some (.string x)
def StrOf (T : TypeId) (w : World) (L B q : Nat) (l : List ByteArray) (e : Ending) (w' : World) : Prop := ∃ r : ByteArray, e = .returned (.string r) ∧ r ∈ l ∧ Rd T w' L B (q + 1) ∧ w.grownBy w' (some B)
theorem txsAt_new (w : World) (t : TypeId) (l : List ByteArray) : TxsAt (w.alloc (.cells (l.map Value.string).toArray t)) w.heap.size l := by
  intro i x hx
  rw [(Blk.new w t (l.map Value.string).toArray).cell i]
  simp [hx]

theorem c_of (L B q g n : Nat) (l : List ByteArray) (w : World) (hr : Rd 87 w L B q) (hq : q ≤ 1000000000000) (hl : TxsAt w g l) (hn : l.length = n) (h0 : 0 < n) (h1 : n ≤ 1000) (hg : g ≠ B) :
    Calls Tryz.prog 57 #[.pointer (some ⟨B, 0, none⟩), .slice (some ⟨g, 0, none⟩) n n] w (StrOf 87 w L B q l) := by
  have HN := hid hn
  clear hn
  go_enter Tryz.func57, Tryz.ntmps57
  go_wp2_with fail
  refine (c_pick L B q n w hr hq (by omega)).mono ?_
  rintro e w1 ⟨r, rfl, hr0, hr1, _, hrd, hgr⟩
  have hr2 := hr1 (by omega)
  obtain ⟨R, rfl⟩ := Int.eq_ofNat_of_zero_le hr0
  have hRl : R < l.length := by rw [HN.out]; omega
  obtain ⟨x, hx⟩ : ∃ x, l[R]? = some x := ⟨l[R], List.getElem?_eq_getElem hRl⟩
  have hc : w1.cell? ⟨g, R, none⟩ = some (.string x) := hgr.cell (hl R x hx) (by simp; omega)
  have HM := hid (List.mem_of_getElem? hx)
  clear hx hr1 hRl
  go_wp2
  go_ret
  exact ⟨x, rfl, HM.out, hrd, hgr⟩

theorem Rd.drew {T : TypeId} {w : World} {L B q : Nat} (h : Rd T w L B q) : Rd T w.drew L B q := h

theorem own_shapeD {w : World} {B : Nat} {e : TypeId} {v : Value} {n : Nat} {l : List UInt8} (h : w.ownsRow B e 1 v n (l.map vb)) : (v = .slice none 0 0 ∧ n = 0) ∨ ∃ g cap, v = .slice (some ⟨g, 0, none⟩) n cap := by
  rcases h.2 with ⟨rfl, rfl⟩ | ⟨g, cap, cur, rfl, _⟩
  · exact .inl ⟨rfl, rfl⟩
  · exact .inr ⟨g, cap, rfl⟩

def SomeStr (T : TypeId) (w : World) (L B q m : Nat) (e : Ending) (w' : World) : Prop := ∃ s : ByteArray, e = .returned (.string s) ∧ s.size ≤ m ∧ Rd T w' L B q ∧ w.grownBy w' (some B)

set_option maxRecDepth 100000 in
set_option maxHeartbeats 4000000 in
theorem c_l1Data (L B q M : Nat) (o l m : Int) (w : World) (hr : Rd 87 w L B q) (hq : q ≤ 1000000) (hok : setOk o l m = true) (hM : M ≤ 1000) :
    Calls Tryz.prog 74 #[.pointer (some ⟨B, 0, none⟩), .agg #[.int .i64 o, .int .i64 l, .int .i64 m], .int .i64 M] w (SomeStr 87 w L B (q + 10 + 3 * M) M) := by
  have hB := hr.lt
  obtain ⟨s1, s2, s3⟩ := setOk_iff.1 hok
  obtain ⟨C, hC⟩ : ∃ C, C = pow2 l := ⟨_, rfl⟩
  have q1 := pow_lo s2.1 s2.2
  rw [← hC] at q1
  have H1 := hid (show ∀ w, Calls Tryz.prog 86 #[.agg #[.int .i64 o, .int .i64 l, .int .i64 m]] w fun e w' => e = .returned (.int .i64 C) ∧ Below w.heap.size w w' by
    intro w; rw [hC]; exact c_l1Clear o l m w (by omega) (by omega))
  clear hC s1 s2 s3 hok
  go_enter Tryz.func74, Tryz.ntmps74
  go_wp2_with (at_make; refine make_bytes0 rfl _ _ 22 rfl w.heap.size 5 Tryz.underlying22 Tryz.info_u8d .i64 .i64 _ M rfl rfl (by omega) (by omega) (by simp) ?_; rintro v1 w1 rfl hown1 hb1 hg1; have k1 : Blk w1 w.heap.size 65 #[.int .i64 o, .int .i64 l, .int .i64 m] := (Blk.new w _ _).grown hg1 (by simp); have c1 := k1.cells3)
  have hr1 : Rd 87 w1 L B q := (hr.alloc _).grown hg1 (by simp)
  have g1 : w.grownBy w1 (some B) := grown_trans (grown_alloc (grown_refl w _) _) (grown_none _ hg1)
  clear hg1 hb1 hr
  refine (H1.out _).mono ?_
  rintro e w2 ⟨rfl, hb2⟩
  have hr2 := hr1.below hb2
  have k2 := k1.on hb2
  have hown2 := own_below hown1 hb2
  have g2 : w.grownBy w2 (some B) := grown_trans g1 (grown_below _ hb2)
  have c2 := k2.cells3
  have z2 := g2.size
  clear hr1 k1 hown1 g1 c1 hb2
  go_wp2_with fail
  refine (c_num L B q w2.heap.size 4 [2, 3, C, 1] _ (hr2.alloc _) (by omega) (by exact intsAt_new w2 _ _) rfl (by decide) (by decide) (by omega)).mono ?_
  rintro e w3 ⟨p, rfl, hp, hr3, hg3⟩
  have hp1 : 1 ≤ p ∧ p ≤ 256 := by simp at hp; omega
  have k3 := (k2.alloc _).grown hg3 (by simp; omega)
  have hown3 := own_grown (hown2.alloc _) hg3 hB
  have g3 : w.grownBy w3 (some B) := grown_trans (grown_alloc g2 _) hg3
  have c3 := k3.cells3
  clear hr2 k2 hown2 g2 c2 hp hg3
  go_wp2_with fail
  refine (H1.out _).mono ?_
  rintro e w4 ⟨rfl, hb4⟩
  have hr4 := hr3.below hb4
  have hown4 := own_below hown3 hb4
  have g4 : w.grownBy w4 (some B) := grown_trans g3 (grown_below _ hb4)
  clear hr3 k3 hown3 g3 c3 hb4
  obtain ⟨pt, hpt⟩ : ∃ pt, pt = min p C := ⟨_, rfl⟩
  have hpt1 : 1 ≤ pt ∧ pt ≤ 256 := by omega
  go_wp2_with fail
  rw [← hpt]
  clear hpt
  refine (c_pick L B (q + 1) 7 w4 hr4 (by omega) (by decide)).mono ?_
  rintro e w5 ⟨pe, rfl, pe0, pe1, _, hr5, hg5⟩
  have pe2 := pe1 (by decide)
  have hown5 := own_grown hown4 hg5 hB
  have g5 := grown_trans g4 hg5
  obtain ⟨pd, hpd⟩ : ∃ pd, pd = 1 + pe := ⟨_, rfl⟩
  have hpd1 : 1 ≤ pd ∧ pd ≤ 7 := by omega
  clear pe1 hr4 hown4 g4 hg5
  go_wp2_with fail
  rw [← hpd]
  clear hpd pe0 pe2
  refine (c_pick L B (q + 1 + 1) 4 w5 hr5 (by omega) (by decide)).mono ?_
  rintro e w6 ⟨md, rfl, md0, md1, _, hr6, hg6⟩
  have hown6 := own_grown hown5 hg6 hB
  have g6 := grown_trans g5 hg6
  clear md1 hr5 hown5 g5 hg6
  go_wp2_with fail
  refine (c_pick L B (q + 1 + 1 + 1) ((M : Int) + 1) w6 hr6 (by omega) (by omega)).mono ?_
  rintro e w7 ⟨N, rfl, hN0, hN1, _, hr7, hg7⟩
  have hN2 := hN1 (by omega)
  have hown7 := own_grown hown6 hg7 hB
  have g7 := grown_trans g6 hg7
  obtain ⟨N, rfl⟩ := Int.eq_ofNat_of_zero_le hN0
  clear hN1 hr6 hown6 g6 hg7
  go_wp2_with fail
  go_loopw [7, 11] (fun v i wr => ∃ (j k : Nat) (lst : List UInt8), i = .int .i64 j ∧ Hid (k + j = N) ∧ j ≤ N ∧ wr.ownsRow w.heap.size 5 1 v k (lst.map vb) ∧ Rd 87 wr L B (q + 10 + 3 * k) ∧ w.grownBy wr (some B)) (fun _ i _ => (intOf i).toNat)
  case atStart => exact ⟨N, 0, [], rfl, hid (by omega), Nat.le_refl _, (by rw [alloc_size] at hown7; exact hown7), hr7.more (by omega), g7⟩
  case round =>
    obtain ⟨j, k, lst, rfl, HK, hj, hown, hrd, hgr⟩ := hrel
    have hk := HK.out
    have hkN : k ≤ N := by omega
    have hjk : k + j ≤ N := by omega
    have hjk2 : N ≤ k + j := by omega
    clear hk
    have hsz := hgr.size
    by_cases hz : 0 < j
    · go_wp2_with fail
      refine (c_pick L B (q + 10 + 3 * k) 256 wr hrd (by omega) (by decide)).mono ?_
      rintro e w3 ⟨c, rfl, hc0, hc1, _, hr3, hg3⟩
      have hown3 := own_grown hown hg3 hB
      have gr3 := grown_trans hgr hg3
      have hX0 := tmod_bd c pt hc0 (by omega)
      have he : c.tmod pt = c % pt := Int.tmod_eq_emod_of_nonneg hc0
      have hp0 : (pt == 0) = false := eq_no (by omega)
      rw [he] at hX0
      obtain ⟨X, hX⟩ : ∃ X, X = c % pt := ⟨_, rfl⟩
      rw [← hX] at he hX0
      have hX1 : 0 ≤ X ∧ X ≤ 255 := by omega
      have HX := hid (show X = ((UInt8.ofNat X.toNat).toNat : Int) by rw [UInt8.toNat_ofNat']; omega)
      clear hc1 hg3 hX0 hrd hgr hown hX
      rcases own_shapeD hown3 with ⟨rfl, kz⟩ | ⟨g, cap, rfl⟩
      · by_cases m0 : md = 0
        · have f0 : (md == 0) = true := eq_yes m0
          have f1 : (md == 1) = false := eq_no (by omega)
          clear m0
          go_wp2_with (at_builtin; refine app_byte rfl _ _ 22 rfl w.heap.size 5 Tryz.underlying22 Tryz.info_u8d _ _ _ rfl hown3 (UInt8.ofNat X.toNat) _ HX.out 1 rfl (by omega) (by have := gr3.size; omega) ?_; intro v9 w9 hown9 hb9 hg9)
          have hge := own_ge hown3
          go_roundw
          case rel => exact ⟨j - 1, k + 1, _, by simp; omega, hid (by omega), by omega, hown9, (hr3.grown hg9 (fun g hg => by have := hge g hg; omega)).more (by omega), grown_own gr3 hg9 hge⟩
          case measure => simp [intOf]; omega
        · have f0 : (md == 0) = false := eq_no (by omega)
          by_cases m1 : md = 1
          · have f1 : (md == 1) = true := eq_yes m1
            clear m0 m1
            go_wp2_with (at_builtin; refine app_byte rfl _ _ 22 rfl w.heap.size 5 Tryz.underlying22 Tryz.info_u8d _ _ _ rfl hown3 (UInt8.ofNat X.toNat) _ HX.out 1 rfl (by omega) (by have := gr3.size; omega) ?_; intro v9 w9 hown9 hb9 hg9)
            have hge := own_ge hown3
            go_roundw
            case rel => exact ⟨j - 1, k + 1, _, by simp; omega, hid (by omega), by omega, hown9, (hr3.grown hg9 (fun g hg => by have := hge g hg; omega)).more (by omega), grown_own gr3 hg9 hge⟩
            case measure => simp [intOf]; omega
          · have f1 : (md == 1) = false := eq_no (by omega)
            clear m0 m1
            go_wp2_with (at_builtin; refine app_byte rfl _ _ 22 rfl w.heap.size 5 Tryz.underlying22 Tryz.info_u8d _ _ _ rfl hown3 (UInt8.ofNat X.toNat) _ HX.out 1 rfl (by omega) (by have := gr3.size; omega) ?_; intro v9 w9 hown9 hb9 hg9)
            have hge := own_ge hown3
            go_roundw
            case rel => exact ⟨j - 1, k + 1, _, by simp; omega, hid (by omega), by omega, hown9, (hr3.grown hg9 (fun g hg => by have := hge g hg; omega)).more (by omega), grown_own gr3 hg9 hge⟩
            case measure => simp [intOf]; omega
      · by_cases m0 : md = 0
        · have f0 : (md == 0) = true := eq_yes m0
          have f1 : (md == 1) = false := eq_no (by omega)
          clear m0
          by_cases kk : 0 < k
          · go_wp2_with fail
            refine (c_pick L B (q + 10 + 3 * k + 1) 4 w3 hr3 (by omega) (by decide)).mono ?_
            rintro e w4 ⟨y, rfl, y0, y1, _, hr4, hg4⟩
            clear y1
            have hown4 := own_grown hown3 hg4 hB
            have gr4 := grown_trans gr3 hg4
            by_cases yy : 0 < y
            · have i1 : k - 1 < k := by omega
              have hcell := own_cell hown4 (k - 1) (by omega)
              obtain ⟨cc, hcc⟩ : ∃ cc, cc = lst[k - 1]?.getD 0 := ⟨_, rfl⟩
              rw [← hcc] at hcell
              have hc8 := cc.toNat_lt
              clear hcc
              go_wp2_with (at_builtin; refine app_byte rfl _ _ 22 rfl w.heap.size 5 Tryz.underlying22 Tryz.info_u8d _ _ _ rfl hown4 (cc) _ rfl 1 rfl (by omega) (by have := gr4.size; omega) ?_; intro v9 w9 hown9 hb9 hg9)
              have hge := own_ge hown4
              go_roundw
              case rel => exact ⟨j - 1, k + 1, _, by simp; omega, hid (by omega), by omega, hown9, (hr4.grown hg9 (fun g hg => by have := hge g hg; omega)).more (by omega), grown_own gr4 hg9 hge⟩
              case measure => simp [intOf]; omega
            · go_wp2_with (at_builtin; refine app_byte rfl _ _ 22 rfl w.heap.size 5 Tryz.underlying22 Tryz.info_u8d _ _ _ rfl hown4 (UInt8.ofNat X.toNat) _ HX.out 1 rfl (by omega) (by have := gr4.size; omega) ?_; intro v9 w9 hown9 hb9 hg9)
              have hge := own_ge hown4
              go_roundw
              case rel => exact ⟨j - 1, k + 1, _, by simp; omega, hid (by omega), by omega, hown9, (hr4.grown hg9 (fun g hg => by have := hge g hg; omega)).more (by omega), grown_own gr4 hg9 hge⟩
              case measure => simp [intOf]; omega
          · go_wp2_with (at_builtin; refine app_byte rfl _ _ 22 rfl w.heap.size 5 Tryz.underlying22 Tryz.info_u8d _ _ _ rfl hown3 (UInt8.ofNat X.toNat) _ HX.out 1 rfl (by omega) (by have := gr3.size; omega) ?_; intro v9 w9 hown9 hb9 hg9)
            have hge := own_ge hown3
            go_roundw
            case rel => exact ⟨j - 1, k + 1, _, by simp; omega, hid (by omega), by omega, hown9, (hr3.grown hg9 (fun g hg => by have := hge g hg; omega)).more (by omega), grown_own gr3 hg9 hge⟩
            case measure => simp [intOf]; omega
        · have f0 : (md == 0) = false := eq_no (by omega)
          by_cases m1 : md = 1
          · have f1 : (md == 1) = true := eq_yes m1
            clear m0 m1
            by_cases kk : pd ≤ (k : Int)
            · go_wp2_with fail
              refine (c_pick L B (q + 10 + 3 * k + 1) 10 w3 hr3 (by omega) (by decide)).mono ?_
              rintro e w4 ⟨y, rfl, y0, y1, _, hr4, hg4⟩
              clear y1
              have hown4 := own_grown hown3 hg4 hB
              have gr4 := grown_trans gr3 hg4
              by_cases yy : 0 < y
              · have i1 : k - pd.toNat < k := by omega
                have i2 : (k : Int) - pd = ((k - pd.toNat : Nat) : Int) := by omega
                have hcell := own_cell hown4 (k - pd.toNat) (by omega)
                obtain ⟨cc, hcc⟩ : ∃ cc, cc = lst[k - pd.toNat]?.getD 0 := ⟨_, rfl⟩
                rw [← hcc] at hcell
                have hc8 := cc.toNat_lt
                clear hcc
                go_wp2_with (at_builtin; refine app_byte rfl _ _ 22 rfl w.heap.size 5 Tryz.underlying22 Tryz.info_u8d _ _ _ rfl hown4 (cc) _ rfl 1 rfl (by omega) (by have := gr4.size; omega) ?_; intro v9 w9 hown9 hb9 hg9)
                have hge := own_ge hown4
                go_roundw
                case rel => exact ⟨j - 1, k + 1, _, by simp; omega, hid (by omega), by omega, hown9, (hr4.grown hg9 (fun g hg => by have := hge g hg; omega)).more (by omega), grown_own gr4 hg9 hge⟩
                case measure => simp [intOf]; omega
              · go_wp2_with (at_builtin; refine app_byte rfl _ _ 22 rfl w.heap.size 5 Tryz.underlying22 Tryz.info_u8d _ _ _ rfl hown4 (UInt8.ofNat X.toNat) _ HX.out 1 rfl (by omega) (by have := gr4.size; omega) ?_; intro v9 w9 hown9 hb9 hg9)
                have hge := own_ge hown4
                go_roundw
                case rel => exact ⟨j - 1, k + 1, _, by simp; omega, hid (by omega), by omega, hown9, (hr4.grown hg9 (fun g hg => by have := hge g hg; omega)).more (by omega), grown_own gr4 hg9 hge⟩
                case measure => simp [intOf]; omega
            · go_wp2_with (at_builtin; refine app_byte rfl _ _ 22 rfl w.heap.size 5 Tryz.underlying22 Tryz.info_u8d _ _ _ rfl hown3 (UInt8.ofNat X.toNat) _ HX.out 1 rfl (by omega) (by have := gr3.size; omega) ?_; intro v9 w9 hown9 hb9 hg9)
              have hge := own_ge hown3
              go_roundw
              case rel => exact ⟨j - 1, k + 1, _, by simp; omega, hid (by omega), by omega, hown9, (hr3.grown hg9 (fun g hg => by have := hge g hg; omega)).more (by omega), grown_own gr3 hg9 hge⟩
              case measure => simp [intOf]; omega
          · have f1 : (md == 1) = false := eq_no (by omega)
            clear m0 m1
            go_wp2_with (at_builtin; refine app_byte rfl _ _ 22 rfl w.heap.size 5 Tryz.underlying22 Tryz.info_u8d _ _ _ rfl hown3 (UInt8.ofNat X.toNat) _ HX.out 1 rfl (by omega) (by have := gr3.size; omega) ?_; intro v9 w9 hown9 hb9 hg9)
            have hge := own_ge hown3
            go_roundw
            case rel => exact ⟨j - 1, k + 1, _, by simp; omega, hid (by omega), by omega, hown9, (hr3.grown hg9 (fun g hg => by have := hge g hg; omega)).more (by omega), grown_own gr3 hg9 hge⟩
            case measure => simp [intOf]; omega
    · have hcv := run_str Tryz.underlying22 Tryz.underlying5 Tryz.underlying9 hown
      have HL := hid (own_len hown)
      go_wp2
      go_ret
      exact ⟨str lst, rfl, by rw [str_size, HL.out]; omega, hrd.more (by omega), hgr⟩

theorem conv1 (W : World) (g : Nat) (h : W.cell? ⟨g, 0, none⟩ = some (.int .u8 0)) : (convert 22 9 (.slice (some ⟨g, 0, none⟩) 1 1)).run Tryz.prog W = .ok (.string (str [0])) W := by
  refine run_convert_bytes_back (l := [0]) _ _ _ 5 ⟨g, 0, none⟩ 1 Tryz.underlying22 Tryz.underlying5 Tryz.underlying9 ?_
  intro j hj
  have : j = 0 := by simpa using hj
  subst this
  exact h
theorem IntsAt.alloc {w : World} {g : Nat} {l : List Int} (h : IntsAt w g l) (o : Obj) (hg : g < w.heap.size) : IntsAt (w.alloc o) g l := by
  intro i x hx
  have := h i x hx
  exact (grown_alloc (grown_refl w none) o).cell this (by simp)

end Go.Proofs.YtaiemogcboidhaaGreatDoor
