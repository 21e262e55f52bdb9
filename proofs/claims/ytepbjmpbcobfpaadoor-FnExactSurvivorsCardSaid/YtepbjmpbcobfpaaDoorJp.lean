/- Survivors of the program. No condition but that the strings are not too long. -/
import Derived.Test.YtepbjmpbcobfpaaDoorJo
import Derived.Test.YtepbjmpbcobfpaaDoorRz
import Derived.Test.YtepbjmpbcobfpaaDoorTf
import Derived.BigQuiet
namespace Go.Proofs.YtepbjmpbcobfpaaDoor
open Go.ChangeShapes Go.WideShapes Go.ChangeAt Go.RowKit Go.Joins
set_option linter.unusedVariables false
set_option linter.unusedSimpArgs false

set_option maxHeartbeats 4000000 in
set_option maxRecDepth 100000 in
theorem c_Survivors (S T : ByteArray) (L : List UInt8) (bs R : List Bl) (c : Nat) (l : List Fo) (w : World) (a0 a1 a2 : Addr) (hS : S.size ≤ 1000000000000) (hL : L = S.data.toList) (hst : Stop L bs c) (hR : R = if c = 0 then bs else []) (hl : l.length ≤ 1000) (hfit : ∀ f ∈ l, Fits f.n) (hF : ∀ v, Glob0 v a0 → Calls Tryd.prog 9 #[.string T] v fun e w' => ∃ A cap, e = .returned (.slice A l.length cap) ∧ w'.ownsRow v.heap.size 40 5 (.slice A l.length cap) l.length (fvs l) ∧ Below v.heap.size v w') (hG : Glob w a0 a1 a2) : Calls Tryd.prog 14 #[.string S, .string T] w fun e w' => ∃ A cap, e = .returned (.slice A (svs R l R.length).length cap) ∧ w'.ownsRow w.heap.size 3 1 (.slice A (svs R l R.length).length cap) (svs R l R.length).length ((svs R l R.length).map iv) ∧ Below w.heap.size w w' := by
  have HK := hid (fun (v : World) (hG : Glob0 v a0) => c_firstBlocks T l v a0 hF hl hfit hG)
  have HG := hid hG
  clear hF hfit hl
  by_cases hc : c = 0
  · subst hc
    rw [if_pos rfl] at hR
    subst hR
    have hR40 : R.length ≤ 40 := hst.brd.len_le
    have HA := hid (c_rc_yes hS hL hst hG)
    clear hst hG
    go_enter Tryd.func14, Tryd.ntmps14
    go_wp2_with fail
    refine (HA.out).mono ?_
    rintro e w1 ⟨A1, q1, A2, q2, rfl, h1, h2, hb1⟩
    have hRB := Blk.new w1 54 #[.slice none 0 0, .slice none 0 0, .int .i64 0, .int .i64 0]
    obtain ⟨r0, r1, r2, r3⟩ := hRB.cells4y
    have f0 := hRB.frozen 0
    have f1 := hRB.frozen 1
    have f2 := hRB.frozen 2
    have f3 := hRB.frozen 3
    clear hRB
    go_wp2_with fail
    clear r0 r1 r2 r3 f0 f1 f2 f3
    have hbW := bel_alloc (Below.refl _ w1) (.cells #[.slice A1 R.length q1, .slice A2 (pls R).length q2, .int .i64 ((txt R).length : Nat), .int .i64 (zs R : Nat)] 54)
    have X0 := Blk.new w1 54 #[.slice A1 R.length q1, .slice A2 (pls R).length q2, .int .i64 ((txt R).length : Nat), .int .i64 (zs R : Nat)]
    obtain ⟨W1, hW1⟩ : ∃ W1, W1 = w1.alloc (.cells #[.slice A1 R.length q1, .slice A2 (pls R).length q2, .int .i64 ((txt R).length : Nat), .int .i64 (zs R : Nat)] 54) := ⟨_, rfl⟩
    rw [← hW1] at hbW X0 ⊢
    clear hW1
    have z1 := hb1.size
    have hB1 := hb1.trans (hbW.mono z1)
    have zW := hB1.size
    refine (HK.out _ (HG.out.on hB1).g0).mono ?_
    rintro e w2 ⟨bm, n, rfl, hM, hbm, hb2⟩
    have hB2 := hB1.trans (hb2.mono zW)
    have HM := hid hM
    have own1 := own_on (own_on h1 hbW) hb2
    have HA1 := hid (own_blsq own1)
    have hz2 := hB2.size
    obtain ⟨x0, -, -, -⟩ := X0.cells4y
    have d0 := cell_to x0 hb2
    obtain ⟨N, hN⟩ : ∃ N, N = R.length := ⟨_, rfl⟩
    have HN := hid hN
    rw [← hN] at hR40 d0 ⊢
    clear hN h1 h2 own1 x0 X0 hbW hM hb1 hb2 HA HK HG hB1
    go_wp2_with fail
    clear d0
    go_loopw [8, 25] (fun v i wr => ∃ k : Nat, k ≤ N ∧ i = .int .i64 k ∧ wr.ownsRow w2.heap.size 3 1 v (svs R l k).length ((svs R l k).map iv) ∧ Below w2.heap.size w2 wr) (fun _ i _ => N - (intOf i).toNat)
    case atStart => exact ⟨0, Nat.zero_le _, rfl, own_ints_nil _ _ _, Below.refl _ _⟩
    case round =>
      obtain ⟨k, hk, rfl, hown, hbl⟩ := hrel
      have hBl := hB2.trans (hbl.mono hz2)
      by_cases hlt : k < N
      · have hlt2 : k < R.length := by have := HN.out; omega
        have hsz := hbl.size
        have HO := hid hown
        obtain ⟨b, off, hA, hbb, hc0, hc1, hc2, hc3⟩ := bl_at (HA1.out.below hbl (Nat.le_refl _)) k hlt2
        subst hA
        obtain ⟨p, hp⟩ : ∃ p, p = R[k] := ⟨_, rfl⟩
        rw [← hp] at hc0 hc1 hc2 hc3
        have HP := hid hp
        have hbV := bel_alloc (Below.refl _ wr) (.cells #[.int .i64 p.n, .bool p.raw, .int .i64 p.z, .string p.body] 35)
        have HX := Blk.new wr 35 #[.int .i64 p.n, .bool p.raw, .int .i64 p.z, .string p.body]
        have hRB := Blk.new wr 35 #[.int .i64 0, .bool false, .int .i64 0, .string ByteArray.empty]
        obtain ⟨r0, r1, r2, r3⟩ := hRB.cells4y
        have f0 := hRB.frozen 0
        have f1 := hRB.frozen 1
        have f2 := hRB.frozen 2
        have f3 := hRB.frozen 3
        clear hRB hp hown
        obtain ⟨V, hV⟩ : ∃ V, V = wr.alloc (.cells #[.int .i64 p.n, .bool p.raw, .int .i64 p.z, .string p.body] 35) := ⟨_, rfl⟩
        rw [← hV] at hbV HX
        have hzV := hbV.size
        have hrun := ((HM.out.on hbl).on hbV).look (x := (k : Int)) (by constructor <;> omega)
        have hRC := Blk.new V 35 #[.int .i64 0, .bool false, .int .i64 0, .string ByteArray.empty]
        obtain ⟨s0, s1, s2, s3⟩ := hRC.cells4y
        have g0 := hRC.frozen 0
        have g1 := hRC.frozen 1
        have g2 := hRC.frozen 2
        have g3 := hRC.frozen 3
        clear hRC
        cases hf : firstIn l (k : Int) with
        | none =>
          have HS := hid (svs_no (svOk_none (bs := R) hf))
          rw [hf, show fbV none = .agg #[.int .i64 0, .bool false, .int .i64 0, .string ByteArray.empty] from rfl, show (none : Option Fo).isSome = false from rfl] at hrun
          have hb3 := bel_alloc (Below.refl _ V) (.cells #[.int .i64 0, .bool false, .int .i64 0, .string ByteArray.empty] 35)
          have hBV := hbl.trans ((hbV.trans (hb3.mono hzV)).mono hsz)
          have HO3 := hid (own_on HO.out (hbV.trans (hb3.mono hzV)))
          clear hf hb3 HX hbV
          subst hV
          go_wp2_with fail
          have hownq := HO3.out
          rw [← HS.out] at hownq
          go_roundw
          case rel => exact ⟨k + 1, by omega, by go_num, hownq, hBV⟩
          case measure => simp [intOf]; omega
        | some f =>
          have HSv := hid (svOk_some hf hlt2)
          rw [← HP.out] at HSv
          have HS := hid HSv.out
          rw [hf, show fbV (some f) = .agg #[.int .i64 f.n, .bool f.raw, .int .i64 f.z, .string f.body] from rfl, show (some f).isSome = true from rfl] at hrun
          have heq := run_eqBl f.n p.n f.z p.z f.raw p.raw f.body p.body
          have hb3 := bel_alloc (Below.refl _ V) (.cells #[.int .i64 f.n, .bool f.raw, .int .i64 f.z, .string f.body] 35)
          have hBV := hbl.trans ((hbV.trans (hb3.mono hzV)).mono hsz)
          have HO3 := hid (own_on HO.out (hbV.trans (hb3.mono hzV)))
          obtain ⟨x0, x1, x2, x3⟩ := HX.cells4y
          have HY := Blk.new V 35 #[.int .i64 f.n, .bool f.raw, .int .i64 f.z, .string f.body]
          obtain ⟨y0, y1, y2, y3⟩ := HY.cells4y
          have HD := hid (And.intro (cell_to x0 hb3) (And.intro (cell_to x1 hb3) (And.intro (cell_to x2 hb3) (cell_to x3 hb3))))
          have HY4 := hid (And.intro y0 (And.intro y1 (And.intro y2 y3)))
          clear hf HX HSv x0 x1 x2 x3 y0 y1 y2 y3 HY
          have hszq : w2.heap.size ≤ (V.alloc (.cells #[.int .i64 f.n, .bool f.raw, .int .i64 f.z, .string f.body] 35)).heap.size := hBV.size
          have hLk := svs_len R l k
          obtain ⟨d0, d1, d2, d3⟩ := HD.out
          obtain ⟨y0, y1, y2, y3⟩ := HY4.out
          clear hbV hb3
          cases hqq : eqFB f p with
          | true =>
            have HS1 := hid (svs_yes (HS.out.trans hqq))
            rw [show (f.n == p.n && (f.raw == p.raw && (f.z == p.z && f.body.toList == p.body.toList))) = true from hqq] at heq
            clear hqq
            subst hV
            go_wp2_with (at_builtin; go_loud (refine app_int rfl _ _ 29 rfl w2.heap.size 3 Tryd.underlying29 Tryd.info_int _ _ (svs R l k) rfl HO3.out (k : Int) _ rfl 1 (by rw [World.size_alloc, World.size_alloc]; rfl) (by omega) hszq ?_; intro v4 w4 hown4 hb4 hg4))
            rw [← HS1.out] at hown4
            have hl4 : (svs R l k).length + 1 = (svs R l (k + 1)).length := by rw [HS1.out, List.length_append]; rfl
            rw [hl4] at hown4
            go_roundw
            case rel => exact ⟨k + 1, by omega, by go_num, hown4, hBV.trans hb4⟩
            case measure => simp [intOf]; omega
          | false =>
            have HS1 := hid (svs_no (HS.out.trans hqq))
            rw [show (f.n == p.n && (f.raw == p.raw && (f.z == p.z && f.body.toList == p.body.toList))) = false from hqq] at heq
            clear hqq
            subst hV
            go_wp2_with fail
            have hownr := HO3.out
            rw [← HS1.out] at hownr
            go_roundw
            case rel => exact ⟨k + 1, by omega, by go_num, hownr, hBV⟩
            case measure => simp [intOf]; omega
      · have hkN : k = N := by omega
        have h9 := HN.out
        subst h9
        obtain ⟨A9, q9, rfl, -, -, -⟩ := own_ints hown
        rw [hkN] at hown ⊢
        clear hkN
        go_wp2_with fail
        go_ret
        exact ⟨_, _, rfl, own_mono hown hz2, hBl⟩
  · rw [if_neg hc] at hR
    subst hR
    have HA := hid (c_rc_no hS hL hst hc hG)
    clear hst hG
    go_enter Tryd.func14, Tryd.ntmps14
    go_wp2_with fail
    refine (HA.out).mono ?_
    rintro e w1 ⟨x, rfl, hb1⟩
    have hRB := Blk.new w1 54 #[.slice none 0 0, .slice none 0 0, .int .i64 0, .int .i64 0]
    obtain ⟨r0, r1, r2, r3⟩ := hRB.cells4y
    have f0 := hRB.frozen 0
    have f1 := hRB.frozen 1
    have f2 := hRB.frozen 2
    have f3 := hRB.frozen 3
    clear hRB
    go_wp2_with fail
    go_ret
    exact ⟨none, 0, rfl, own_ints_nil _ _ _, by (repeat (first | with_reducible (first | assumption | exact Below.refl _ _ | refine bel_alloc ?_ _ | refine bel_drew ?_ | refine bel_drewN ?_ _ | refine bel_set ?_ (by first | omega | (simp; done) | (simp; omega)) _ | refine bel_trans ?_ (by assumption)) | assumption | refine bel_trans ?_ (by assumption)))⟩

theorem chain_fits {L : List UInt8} : ∀ {l : List Fo} {i : Nat}, Chain L i l → ∀ f ∈ l, Fits f.n
  | [], _, _, f, hf => by simp at hf
  | g :: l, i, h, f, hf => by
    obtain ⟨s, b, h1, h2, h3, h4⟩ := h
    rcases List.mem_cons.1 hf with e | e
    · subst e
      subst h3
      have := (parse_len h2).1.1
      exact ⟨by show _ ≤ b.n; omega, by show b.n ≤ _; omega⟩
    · exact chain_fits h4 f e

set_option maxHeartbeats 4000000 in
set_option maxRecDepth 100000 in
theorem walk_FnExactSurvivors (S T : ByteArray) (w : World) (h_S : S.size ≤ maxLen) (h_T : T.size ≤ maxLen) {a0 a1 a2 : Addr} (hG : Glob w a0 a1 a2) :
    Calls Tryd.prog 5 #[.string S, .string T] w fun e w' => e = .returned (.bool true) ∧ Below w.heap.size w w' := by
  by_cases big_S : 1048576 < S.size
  · unfold maxLen at *
    go_enter Tryd.func5, Tryd.ntmps5
    go_wp2_with fail
    go_ret
    exact ⟨rfl, by (repeat (first | with_reducible (first | assumption | exact Below.refl _ _ | refine bel_alloc ?_ _ | refine bel_drew ?_ | refine bel_drewN ?_ _ | refine bel_set ?_ (by first | omega | (simp; done) | (simp; omega)) _ | refine bel_trans ?_ (by assumption)) | assumption | refine bel_trans ?_ (by assumption)))⟩
  by_cases big_T : 1048576 < T.size
  · unfold maxLen at *
    go_enter Tryd.func5, Tryd.ntmps5
    go_wp2_with fail
    go_ret
    exact ⟨rfl, by (repeat (first | with_reducible (first | assumption | exact Below.refl _ _ | refine bel_alloc ?_ _ | refine bel_drew ?_ | refine bel_drewN ?_ _ | refine bel_set ?_ (by first | omega | (simp; done) | (simp; omega)) _ | refine bel_trans ?_ (by assumption)) | assumption | refine bel_trans ?_ (by assumption)))⟩
  have key : ∃ l : List Fo, l.length ≤ 1000 ∧ (∀ f ∈ l, Fits f.n) ∧ (∀ v, Calls Tryd.prog 8 #[.string T] v fun e w' => ∃ A cap, e = .returned (.slice A l.length cap) ∧ w'.ownsRow v.heap.size 40 5 (.slice A l.length cap) l.length (fvs l) ∧ Below v.heap.size v w') ∧ (∀ v, Glob0 v a0 → Calls Tryd.prog 9 #[.string T] v fun e w' => ∃ A cap, e = .returned (.slice A l.length cap) ∧ w'.ownsRow v.heap.size 40 5 (.slice A l.length cap) l.length (fvs l) ∧ Below v.heap.size v w') := by
    by_cases h8 : T.size ≤ 8000
    · obtain ⟨l, hl⟩ := chain_ex T.data.toList _ 0 (Nat.le_refl _)
      exact ⟨l, chain_small hl (by simpa using h8), chain_fits hl, fun v => c_sFindBlocks T _ l v h8 rfl hl, fun v hG => c_FindBlocks T _ l v a0 h8 rfl hl hG⟩
    · exact ⟨[], by simp, by simp, fun v => c_sFindBlocks_no T v (by omega) h8, fun v hG => c_FindBlocks_no T v (by omega) h8⟩
  obtain ⟨l, hl, hfit, k1, k2⟩ := key
  obtain ⟨bs, c, hst⟩ := stop_ex S.data.toList
  obtain ⟨R0, hR⟩ : ∃ R0, R0 = if c = 0 then bs else [] := ⟨_, rfl⟩
  have hn0 : R0.length ≤ 40 := by
    have := hst.brd.len_le
    rw [hR]
    split <;> simp <;> omega
  have HS := hid (fun v => c_sSurvivors S T _ bs R0 c l v (by omega) rfl hst hR hl k1)
  have HI := hid (fun v (hG : Glob v a0 a1 a2) => c_Survivors S T _ bs R0 c l v a0 a1 a2 (by omega) rfl hst hR hl hfit k2 hG)
  clear hst hR hl hfit k1 k2
  have hlen := svs_len R0 l R0.length
  obtain ⟨R, hR2⟩ : ∃ R, R = svs R0 l R0.length := ⟨_, rfl⟩
  rw [← hR2] at HS HI hlen
  have hn : R.length ≤ 1048576 := by omega
  clear hR2 hlen hn0
  have HG := hid hG
  clear hG
  go_enter Tryd.func5, Tryd.ntmps5
  go_wp2_with fail
  refine (HS.out _).mono ?_
  rintro e w1 ⟨A0, c0, rfl, own0, hb1⟩
  have z1 := hb1.size
  go_wp2_with fail
  refine (HI.out _ (HG.out.on hb1)).mono ?_
  rintro e w2 ⟨A1, c1, rfl, own1, hb2⟩
  have z2 := hb2.size
  have hB2 := hb1.trans (hb2.mono z1)
  have sep := hid (fun g (e0 : (Value.slice A0 R.length c0).ownBlock = some g) (e1 : (Value.slice A1 R.length c1).ownBlock = some g) => (absurd (own0.lt g e0).2 (by have := (own1.lt g e1).1; omega) : False))
  have own02 := own_on own0 hb2
  clear own0 hb1 hb2
  go_wp2_with fail
  refine (c_eqIntS A1 A0 c1 c0 R _ _ _ (own_ints_at own1) (own_ints_at own02) (Nat.le_refl _) (Nat.le_refl _) hn).mono ?_
  rintro e w3 ⟨rfl, hb3⟩
  have z3 := hb3.size
  have hB3 := hB2.trans (hb3.mono (by omega))
  have own03 := own_on own02 hb3
  have own13 := own_on own1 hb3
  clear hB2 own02 own1 hb3
  go_wp2_with fail
  refine (c_markIntS_any R 1 _ c1 A1 _ own13 hn (by omega) (by omega)).mono ?_
  rintro e w4 ⟨rfl, own14, hg4⟩
  have hB4 := hB3.trans (below_of_grown hg4 hB3.size (fun g e => by have := (own13.lt g e).1; omega))
  have z4 := hg4.size
  have own04 := own_grownR own03 hg4 (fun g e0 e1 => sep.out g e0 e1)
  clear hB3 own03 own13 hg4
  go_wp2_with fail
  refine (c_heldIntS _ A1 c1 R.length 1 _ (own_ints_at own14) hn (by omega) (by omega)).mono ?_
  rintro e w5 ⟨rfl, rfl⟩
  go_wp2_with fail
  refine (HI.out _ (HG.out.on hB4)).mono ?_
  rintro e w6 ⟨A2, c2, rfl, own2, hb6⟩
  have z6 := hb6.size
  have hB6 := hB4.trans (hb6.mono (by omega))
  have own06 := own_on own04 hb6
  have own16 := own_on own14 hb6
  clear hB4 own04 own14 hb6
  go_wp2_with fail
  refine (c_eqIntS A2 A0 c2 c0 R _ _ _ (own_ints_at own2) (own_ints_at own06) (Nat.le_refl _) (Nat.le_refl _) hn).mono ?_
  rintro e w7 ⟨rfl, hb7⟩
  have hB7 := hB6.trans (hb7.mono (by omega))
  have own17 := own_on own16 hb7
  clear hB6 own06 own16 own2 hb7
  go_wp2_with fail
  refine (c_heldIntS _ A1 c1 R.length 1 _ (own_ints_at own17) hn (by omega) (by omega)).mono ?_
  rintro e w8 ⟨rfl, rfl⟩
  go_wp2_with fail
  go_ret
  exact ⟨rfl, hB7⟩
end Go.Proofs.YtepbjmpbcobfpaaDoor
