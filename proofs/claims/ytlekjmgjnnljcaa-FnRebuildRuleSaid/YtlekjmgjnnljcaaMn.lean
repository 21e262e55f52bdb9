/- FnRebuildRule: the law's Go text returns true, and writes nothing that was there. -/
import Derived.Test.YtlekjmgjnnljcaaMm
import Derived.Test.YtlekjmgjnnljcaaYz
import Derived.Test.YtlekjmgjnnljcaaYr
namespace Go.Proofs.Ytlekjmgjnnljcaa
open Go.ChangeShapes Go.WideShapes Go.ChangeAt Go.RowKit Go.Joins
set_option linter.unusedVariables false

theorem append_whereR {P : Program} (w : World) (B : Nat) (t ty e : TypeId) (i : TypeInfo) (ht : P.underlying t = some (.slice e)) (hi : P.info? e = some i) (hz : i.zero = some (.string ByteArray.empty)) (h1 : i.size = 1) (h2 : i.bytes = 16)
    (v : Value) (n : Nat) (l : List ByteArray) (hown : w.ownsRow B e 1 v n (l.map sv)) (ad : Addr) (c : Nat) (x : ByteArray) (hx : w.cell? ad = some (.string x)) (hn : n ≤ 1000000000000) (v' : Value) (w' : World)
    (hr : (Builtin.append_ #[t, t] ty #[v, .slice (some ad) 1 c]).run P w = .ok v' w') : v'.ownBlock = v.ownBlock ∨ v'.ownBlock = some w.heap.size := by
  have hnews : ∀ j u, [Value.string x][j]? = some u → w.cell? (ad.add j) = some u := by
    intro j u hj
    match j, hj with
    | 0, hj => simp at hj; subst hj; rw [show ad.add 0 = ad by simp [Addr.add]]; exact hx
  rcases hown.2 with ⟨rfl, rfl⟩ | ⟨g, cap, cur, rfl, hbg, hg, hnc, hcm, hcs, htk⟩
  · have h := run_append_nil (P := P) w t ty e i (.string ByteArray.empty) ht hi hz ad 1 c [.string x] (by rw [h1]; rfl) hnews (by omega) (by omega) (by omega)
    rw [h] at hr
    cases hr
    exact .inr rfl
  · by_cases hroom : n + 1 ≤ cap
    · have h := run_append_room (P := P) w t ty e i ht hi g n cap cur hg ad 1 c [.string x] (by rw [h1]; rfl) hnews (by intro u hu; simp at hu; subst hu; rfl) hroom (by rw [h1]; simp; omega)
      rw [h] at hr
      cases hr
      exact .inl rfl
    · have h := run_append_grow (P := P) w t ty e i (.string ByteArray.empty) ht hi hz ⟨g, 0, none⟩ n cap (l.map sv) (by rw [h1]; simpa using hown.1) (hown.cells (g := g) rfl) ad 1 c [.string x] (by rw [h1]; rfl) hnews (by omega) (by omega) (growslice_fits (by omega) (by rw [h2]; omega))
      rw [h] at hr
      cases hr
      exact .inr rfl

/-- 'append(s, x)' of one text as a step of a drawn region, and where the row lies then -/
theorem step_txtR {P : Program} {w : World} {ops : Array Oper} {o : Oper} {a : Act} {K : Act → World → Prop} {Q : Exit → Act → World → Prop} {E : Prop} (hgd : o.guard = none) (s x : Operand) (t : TypeId)
    (ho : o.op = .call { callee := .builtin .append, args := #[s, x], argTypes := #[t, t] }) (B : Nat) (e : TypeId) (ht : P.underlying t = some (.slice e))
    (hinfo : (P.info? e).map (fun i => (i.zero, i.size, i.bytes)) = some (some (.string ByteArray.empty), 1, 16)) (v : Value) (n : Nat) (l : List ByteArray) (hs : a.eval s = v) (hown : w.ownsRow B e 1 v n (l.map sv)) (X : ByteArray) (cp : Nat)
    (hx : a.eval x = .slice (some ⟨w.heap.size, 0, none⟩) 1 cp) (hn : n ≤ 1000000000) (hB : B ≤ w.heap.size)
    (h : ∀ v' w', w'.ownsRow B e 1 v' (n + 1) ((l ++ [X]).map sv) → Below B w w' → w.grownBy w' v.ownBlock → (v'.ownBlock = v.ownBlock ∨ v'.ownBlock = some (w.heap.size + 1)) → K (a.put o.dst v') w') : if Region.wanted o (yielded ops a.tmps) = true then Oper.wp P o a (w.alloc (.cells #[.string X] e)) K Q else E := by
  have hw : Region.wanted o (yielded ops a.tmps) = true := by simp [Region.wanted, hgd]
  rw [if_pos hw]
  obtain ⟨i0, hi, hz0, hz1, hz2⟩ := info_parts hinfo
  obtain ⟨v', w', hr, hown', hg, _⟩ := run_append_own (P := P) (w.alloc (.cells #[.string X] e)) B t o.type e i0 (.string ByteArray.empty) 1 16 ht hi hz0 hz1 hz2 rfl (by decide) v n (l.map sv) (hown.alloc _) ⟨w.heap.size, 0, none⟩ 1 cp [.string X] rfl (one_new w _ e) (by intro u hu; simp at hu; subst hu; rfl) (by unfold maxLen; omega) (by omega) (by have := World.size_alloc w (.cells #[.string X] e); omega)
  have hwh := append_whereR (P := P) (w.alloc (.cells #[.string X] e)) B t o.type e i0 ht hi hz0 hz1 hz2 v n l (hown.alloc _) ⟨w.heap.size, 0, none⟩ cp X (by have := one_new w (.string X) e 0 _ rfl; rw [show (⟨w.heap.size, 0, none⟩ : Addr).add 0 = ⟨w.heap.size, 0, none⟩ by simp [Addr.add]] at this; exact this) (by omega) v' w' hr
  have hg2 : w.grownBy w' v.ownBlock := grown_trans (World.grownBy_alloc w _ _) hg
  unfold Oper.wp execOp
  simp only [ho, resolve, invoke, builtin, Sem.run_bind, Sem.run_pure, Result.andThen_ok, List.map_toArray, List.map_cons, List.map_nil, hs, hx, hr]
  exact h v' w' (by rw [List.map_append]; exact hown') (below_of_grown hg2 hB (fun g hg => (hown.lt g hg).1)) hg2 (by simpa using hwh)

set_option maxHeartbeats 4000000 in
set_option maxRecDepth 100000 in
theorem walk_FnRebuildRule (A : Option Addr) (n cap : Nat) (w : World) (hc : CodeAt w w.heap.size A n cap) :
    Calls Try.prog 3 #[.slice A n cap] w fun e w' => e = .returned (.bool true) ∧ Below w.heap.size w w' := by
  by_cases big : 1048576 < n
  · go_enter Try.func3, Try.ntmps3
    go_wp2_with fail
    go_ret
    exact ⟨rfl, by (repeat (first | with_reducible (first | assumption | exact Below.refl _ _ | refine bel_alloc ?_ _ | refine bel_drew ?_ | refine bel_drewN ?_ _ | refine bel_set ?_ (by first | omega | (simp; done) | (simp; omega)) _ | refine bel_trans ?_ (by assumption)) | assumption | refine bel_trans ?_ (by assumption)))⟩
  have hn := hid (show n ≤ 1048576 by omega)
  have HC := hid (c_DrawRebuildText A n cap w hc)
  clear hc
  go_enter Try.func3, Try.ntmps3
  go_wp2_with fail
  refine HC.out.mono ?_
  rintro e w1 ⟨A1, c1, l, p, rfl, hat, hl6, hls, hp, hb1⟩
  have z1 := hb1.size
  have HI := hid (fun (v : World) (hb : Below w1.heap.size w1 v) => c_RebuildText A1 c1 l _ p v (hat.below hb (Nat.le_refl _)) hb.size (by omega) (fun s hs => by have := hls s hs; omega) (by omega))
  have HS := hid (fun (v : World) (hb : Below w1.heap.size w1 v) => c_sRebuildText A1 c1 l _ p v (hat.below hb (Nat.le_refl _)) hb.size (by omega) (fun s hs => by have := hls s hs; omega) (by omega))
  have HR := hid (fun (h : (reb l p).2 = true) => reb_rule h)
  have HH := hid hat
  obtain ⟨N, hN⟩ : ∃ N, N = l.length := ⟨_, rfl⟩
  have HN := hid hN
  obtain ⟨T, hT⟩ : ∃ T, T = (reb l p).1 := ⟨_, rfl⟩
  obtain ⟨b, hb⟩ : ∃ b, b = (reb l p).2 := ⟨_, rfl⟩
  rw [← hT, ← hb] at HI HS HR
  rw [← hN] at HI HS hl6 ⊢
  clear hT hb hat hN
  go_wp2_with fail
  refine (HI.out _ (by (repeat (first | with_reducible (first | assumption | exact Below.refl _ _ | refine bel_alloc ?_ _ | refine bel_drew ?_ | refine bel_drewN ?_ _ | refine bel_set ?_ (by first | omega | (simp; done) | (simp; omega)) _ | refine bel_trans ?_ (by assumption)) | assumption | refine bel_trans ?_ (by assumption))))).mono ?_
  rintro e w2 ⟨rfl, hb2⟩
  go_wp2_with fail
  refine (HS.out _ (by (repeat (first | with_reducible (first | assumption | exact Below.refl _ _ | refine bel_alloc ?_ _ | refine bel_drew ?_ | refine bel_drewN ?_ _ | refine bel_set ?_ (by first | omega | (simp; done) | (simp; omega)) _ | refine bel_trans ?_ (by assumption)) | assumption | refine bel_trans ?_ (by assumption))))).mono ?_
  rintro e w3 ⟨rfl, hb3⟩
  have b3 : Below w1.heap.size w1 w3 := by (repeat (first | with_reducible (first | assumption | exact Below.refl _ _ | refine bel_alloc ?_ _ | refine bel_drew ?_ | refine bel_drewN ?_ _ | refine bel_set ?_ (by first | omega | (simp; done) | (simp; omega)) _ | refine bel_trans ?_ (by assumption)) | assumption | refine bel_trans ?_ (by assumption)))
  have z3 := b3.size
  clear HI HS hb2 hb3
  have e1 : (T != T) = false := by cases T with | mk d => first | (show (!(d == d)) = false; simp) | (simp [bne, BEq.beq]; done)
  have e2 : (b != b) = false := by simp
  cases b with
  | false =>
    go_wp2_with fail
    go_ret
    exact ⟨rfl, by (repeat (first | with_reducible (first | assumption | exact Below.refl _ _ | refine bel_alloc ?_ _ | refine bel_drew ?_ | refine bel_drewN ?_ _ | refine bel_set ?_ (by first | omega | (simp; done) | (simp; omega)) _ | refine bel_trans ?_ (by assumption)) | assumption | refine bel_trans ?_ (by assumption)))⟩
  | true =>
    have HR2 := hid (HR.out rfl)
    clear HR
    have HO0 := hid (World.ownsRow_made (e := 9) (size := 1) (base := w3.heap.size) w3 #[] 0 (Nat.le_refl _) (Nat.zero_le _) rfl)
    have HO1 : Hid (((w3.alloc (.cells #[] 9)).alloc (.cells #[] 9)).ownsRow (w3.heap.size + 1) 9 1 (.slice (some ⟨w3.heap.size + 1, 0, none⟩) 0 0) 0 (([] : List ByteArray).map sv)) := hid (by
      have q := World.ownsRow_made (e := 9) (size := 1) (base := w3.heap.size + 1) (w3.alloc (.cells #[] 9)) #[] 0 (by simp) (Nat.zero_le _) rfl
      rw [World.size_alloc] at q
      exact q)
    have HA1 := hid (((HH.out.below b3 (Nat.le_refl _)).alloc z3 (.cells #[] 9)).alloc (by rw [World.size_alloc]; omega) (.cells #[] 9))
    have HL1 := hid (show w3.heap.size + 1 ≤ ((w3.alloc (.cells #[] 9)).alloc (.cells #[] 9)).heap.size by rw [World.size_alloc, World.size_alloc]; omega)
    go_wp2_with (first | (at_builtin; refine app_txt rfl _ _ 23 rfl (w3.heap.size + 1) 9 Try.underlying23 Try.info_txt _ l.length l rfl hown5 T T rfl 1 rfl (by have := HN.out; omega) HL5.out ?_; intro v6 w6 hown6 hb6 hg6) | (at_builtin; refine app_strs rfl _ _ 23 rfl (w3.heap.size + 1) 9 Try.underlying23 Try.info_txt (.slice (some ⟨w3.heap.size + 1, 0, none⟩) 0 0) 0 [] rfl HO1.out A1 c1 _ N l HA1.out HN.out rfl (by have := HN.out; omega) HL1.out ?_; intro v5 w5 hown5 hb5 hg5; have HL5 := hid (Nat.le_trans HL1.out hb5.size); have HO5 := hid ((HO0.out.alloc (.cells #[] 9)).kept hg5 (.inr (by simp [Value.ownBlock]))); have b5 : Below w.heap.size w w5 := Below.trans (bel_alloc (bel_alloc (hb1.trans (b3.mono z1)) _) _) (hb5.mono (by omega)); rw [List.nil_append, Nat.zero_add] at hown5))
    have HO6 := hid (HO5.out.kept hg6 (.inr (fun h => by have := (hown5.lt w3.heap.size h.symm).1; omega)))
    have b6 : Below w.heap.size w w6 := b5.trans (hb6.mono (by omega))
    have z6 : w3.heap.size + 1 ≤ w6.heap.size := Nat.le_trans HL5.out hb6.size
    obtain ⟨q, hq⟩ : ∃ q, q = l ++ [T] := ⟨_, rfl⟩
    have hqN := hid (show q.length = N + 1 by rw [hq, List.length_append, List.length_singleton, HN.out])
    have hqs := hid (show ∀ s ∈ q, s.size ≤ 1002 by
      rw [hq]; intro s hs
      rcases List.mem_append.1 hs with h1 | h1
      · have := hls s h1; omega
      · simp at h1; subst h1; have := HR2.out.2; omega)
    rw [← hq] at HR2
    have hown7 : w6.ownsRow (w3.heap.size + 1) 9 1 v6 (N + 1) (q.map sv) := by rw [hq]; have h := hown6; rw [← HN.out] at h; exact h
    clear hq hown6 hown5 hb6 hg6 HO5 HL5 b5 hls HH HA1 HL1 HO0 HO1 hb5 hg5
    obtain ⟨A6, c6, rfl, hat6, hkq, hA6⟩ := own_strs hown7
    rcases hA6 with rfl | ⟨gA, rfl, hgB, hgl⟩
    · have h1 := hat6.1
      have h2 := hat6.2.2.1 rfl
      have := hqN.out
      omega
    clear hat6
    rw [hqN.out] at hown7 ⊢
    clear hkq
    have HO7 := hid hown7
    clear hown7
    go_wp2_with fail
    go_loopw [9, 11] (fun v i wr => ∃ k : Nat, k ≤ N + 1 ∧ i = .int .i64 k ∧ wr.ownsRow w3.heap.size 9 1 v k ((lens (q.take k)).map sv) ∧ wr.ownsRow (w3.heap.size + 1) 9 1 (.slice (some ⟨gA, 0, none⟩) (N + 1) c6) (N + 1) (q.map sv) ∧ v.ownBlock ≠ some gA ∧ Below w.heap.size w wr ∧ w6.heap.size ≤ wr.heap.size) (fun _ i _ => N + 1 - (intOf i).toNat)
    case atStart => exact ⟨0, Nat.zero_le _, rfl, HO6.out, HO7.out, (by simp [Value.ownBlock]; omega), b6, Nat.le_refl _⟩
    case round =>
      obtain ⟨k, hk, rfl, hown, hall, hne, hbl, hz⟩ := hrel
      have hsz := hbl.size
      by_cases hlt : k < N + 1
      · have hlti : (k : Int) < ((N + 1 : Nat) : Int) := by omega
        have hlt2 : k < q.length := by rw [hqN.out]; exact hlt
        obtain ⟨b9, off9, e9, _, hc0⟩ := txt_at (own_strs_at (by rw [← hqN.out] at hall; exact hall)) k hlt2
        cases e9
        rw [Nat.zero_add] at hc0
        have hLT := hid (lens_take q k hlt2)
        have hTs := hqs.out _ (List.getElem_mem hlt2)
        obtain ⟨X, hX⟩ : ∃ X, X = q[k] := ⟨_, rfl⟩
        rw [← hX] at hc0 hLT hTs
        obtain ⟨Y, hY⟩ : ∃ Y, Y = twoB X.size := ⟨_, rfl⟩
        rw [← hY] at hLT
        have HY := hid hY
        clear hX hY
        have hS : wr.cell? ⟨gA, k, none⟩ = some (.string X) ∧ True := ⟨hc0, trivial⟩
        have hcv : (convert 22 9 (.slice (some ⟨wr.heap.size, 0, none⟩) 2 2)).run Try.prog ((wr.alloc (.cells #[.int .u8 (IntKind.u8.wrap (IntKind.i64.wrap (((X.size : Nat) : Int) / 256))), .int .u8 (IntKind.u8.wrap (((X.size : Nat) : Int).tmod 256))] 5)).drew) = .ok (.string Y) ((wr.alloc (.cells #[.int .u8 (IntKind.u8.wrap (IntKind.i64.wrap (((X.size : Nat) : Int) / 256))), .int .u8 (IntKind.u8.wrap (((X.size : Nat) : Int).tmod 256))] 5)).drew) := by
          have eb0 : IntKind.u8.wrap (IntKind.i64.wrap (((X.size : Nat) : Int) / 256)) = ((X.size : Nat) : Int) / 256 % 256 := by rw [IntWalk.i64_in _ (by omega), IntWalk.u8_in _ (by omega)]; omega
          have eb1 : IntKind.u8.wrap (((X.size : Nat) : Int).tmod 256) = ((X.size : Nat) : Int) % 256 := by rw [Int.tmod_eq_emod_of_nonneg (by omega), IntWalk.u8_in _ (by omega)]
          rw [eb0, eb1, HY.out]
          exact run_twoB (P := Try.prog) Try.underlying22 Try.underlying5 Try.underlying9 X.size wr.drew
        have HW8 := hid (hown.drew.alloc (.cells #[.int .u8 (IntKind.u8.wrap (IntKind.i64.wrap (((X.size : Nat) : Int) / 256))), .int .u8 (IntKind.u8.wrap (((X.size : Nat) : Int).tmod 256))] 5))
        have HL8 := hid (hall.drew.alloc (.cells #[.int .u8 (IntKind.u8.wrap (IntKind.i64.wrap (((X.size : Nat) : Int) / 256))), .int .u8 (IntKind.u8.wrap (((X.size : Nat) : Int).tmod 256))] 5))
        have HZ8 : Hid (w3.heap.size ≤ ((wr.drew).alloc (.cells #[.int .u8 (IntKind.u8.wrap (IntKind.i64.wrap (((X.size : Nat) : Int) / 256))), .int .u8 (IntKind.u8.wrap (((X.size : Nat) : Int).tmod 256))] 5)).heap.size) := hid (by rw [World.size_alloc]; show w3.heap.size ≤ wr.heap.size + 1; omega)
        have HB8 : Hid (Below w.heap.size w ((wr.drew).alloc (.cells #[.int .u8 (IntKind.u8.wrap (IntKind.i64.wrap (((X.size : Nat) : Int) / 256))), .int .u8 (IntKind.u8.wrap (((X.size : Nat) : Int).tmod 256))] 5))) := hid (bel_alloc (bel_drew hbl) _)
        have HN8 := hid hne
        have HC8 := hid (t1_alloc (t1_drew hS) (.cells #[.int .u8 (IntKind.u8.wrap (IntKind.i64.wrap (((X.size : Nat) : Int) / 256))), .int .u8 (IntKind.u8.wrap (((X.size : Nat) : Int).tmod 256))] 5)).1
        have hz8 : w6.heap.size ≤ wr.heap.size := hz
        clear hown hall hne hbl hc0 HY
        go_wp2_with fail
        refine wp_region_noPanic ?_
        refine wp_region_held_drew (S := (fun v => v.cell? ⟨gA, k, none⟩ = some (.string X) ∧ True)) (by kernel_rfl) (t1_drew hS) (fun hHeld => ?_)
        refine tk 0 ?_
        refine tk 1 ?_
        refine tk 2 ?_
        refine tk 3 ?_
        refine tk 4 ?_
        refine tk 5 ?_
        refine tk 6 ?_
        refine tk 7 ?_
        refine tk 8 ?_
        refine tk 9 ?_
        refine tk 10 ?_
        refine tk 11 ?_
        refine tk 12 ?_
        refine tk 13 ?_
        refine tk 14 ?_
        refine wpAnyH_ready (rs := [15]) (by kernel_rfl) (by simp) ?_
        refine AllReadyH.cons (o := ?or1_15) ?ir1_15 (fun K hK => ?sr1_15) AllReadyH.nil
        case ir1_15 => (simp only [List.getElem?_toArray, List.getElem?_cons_succ, List.getElem?_cons_zero]; rfl)
        (go_simp; (skip))
        refine hK.out _ _ ?kr1_15 (fun hHeld => ?_)
        case kr1_15 => (try dsimp only); (first | with_reducible assumption | with_reducible exact t7 | exact t1_bel (by assumption) (by assumption) | assumption | exact t1_alloc (by assumption) _ | exact t7)
        clear hK K
        try simp only [Act.put, List.setIfInBounds_toArray, List.set_cons_zero, List.set_cons_succ]
        refine wpAnyH_ready (rs := [16]) (by kernel_rfl) (by simp) ?_
        refine AllReadyH.cons (o := ?or1_16) ?ir1_16 (fun K hK => ?sr1_16) AllReadyH.nil
        case ir1_16 => (simp only [List.getElem?_toArray, List.getElem?_cons_succ, List.getElem?_cons_zero]; rfl)
        ((go_simp))
        refine hK.out _ _ ?kr1_16 (fun hHeld => ?_)
        case kr1_16 => (try dsimp only); (first | with_reducible assumption | with_reducible exact t7 | exact t1_bel (by assumption) (by assumption) | assumption | exact t1_alloc (by assumption) _ | exact t7)
        clear hK K
        try simp only [Act.put, List.setIfInBounds_toArray, List.set_cons_zero, List.set_cons_succ]
        refine wpAnyH_ready (rs := [17]) (by kernel_rfl) (by simp) ?_
        refine AllReadyH.cons (o := ?or1_17) ?ir1_17 (fun K hK => ?sr1_17) AllReadyH.nil
        case ir1_17 => (simp only [List.getElem?_toArray, List.getElem?_cons_succ, List.getElem?_cons_zero]; rfl)
        (go_simp; (skip))
        refine hK.out _ _ ?kr1_17 (fun hHeld => ?_)
        case kr1_17 => (try dsimp only); (first | with_reducible assumption | with_reducible exact t7 | exact t1_bel (by assumption) (by assumption) | assumption | exact t1_alloc (by assumption) _ | exact t7)
        clear hK K
        try simp only [Act.put, List.setIfInBounds_toArray, List.set_cons_zero, List.set_cons_succ]
        refine wpAnyH_ready (rs := [18]) (by kernel_rfl) (by simp) ?_
        refine AllReadyH.cons (o := ?or1_18) ?ir1_18 (fun K hK => ?sr1_18) AllReadyH.nil
        case ir1_18 => (simp only [List.getElem?_toArray, List.getElem?_cons_succ, List.getElem?_cons_zero]; rfl)
        ((refine step_txtR (w := (wr.drew).alloc (.cells #[.int .u8 (IntKind.u8.wrap (IntKind.i64.wrap (((X.size : Nat) : Int) / 256))), .int .u8 (IntKind.u8.wrap (((X.size : Nat) : Int).tmod 256))] 5)) (by rfl) (.tmp 65) (.tmp 82) 23 (by rfl) w3.heap.size 9 Try.underlying23 Try.info_txt _ k (lens (q.take k)) (by rfl) HW8.out Y 1 (by rw [World.size_alloc]; rfl) (by omega) HZ8.out ?_; intro v7 w7 hown7 hb7 hg7 hwh7; have t7 : w7.cell? ⟨gA, k, none⟩ = some (.string X) ∧ True := ⟨hg7.cell HC8.out (fun h => HN8.out h.symm), trivial⟩))
        refine hK.out _ _ ?kr1_18 (fun hHeld => ?_)
        case kr1_18 => (try dsimp only); (first | with_reducible assumption | with_reducible exact t7 | exact t1_bel (by assumption) (by assumption) | assumption | exact t1_alloc (by assumption) _ | exact t7)
        clear hK K
        try simp only [Act.put, List.setIfInBounds_toArray, List.set_cons_zero, List.set_cons_succ]
        refine tk 19 ?_
        refine wpAnyH_done (by kernel_rfl) ?_ _
        refine NoPanic.normal ?_
        all_goals
          rw [← hLT.out] at hown7
          have hall7 := HL8.out.kept hg7 (.inr (fun h => HN8.out h.symm))
          have hne7 : v7.ownBlock ≠ some gA := by
            rcases hwh7 with h | h
            · rw [h]; exact HN8.out
            · rw [h, World.size_alloc]
              intro h2
              have h3 : wr.heap.size + 1 + 1 = gA := by injection h2
              omega
          have hb9 := HB8.out.trans (hb7.mono (by omega))
          have hz9 : w6.heap.size ≤ w7.heap.size := by
            have h := hb7.size
            rw [World.size_alloc] at h
            have h2 : wr.heap.size + 1 ≤ w7.heap.size := h
            omega
          clear HW8 HL8 HZ8 HB8 HN8 HC8 hcv hb7 hg7 hwh7 t7 hS
          go_wp2_with fail
          go_roundw
          case rel => exact ⟨k + 1, by omega, by go_num, hown7, hall7, hne7, hb9, hz9⟩
          case measure => simp [intOf]; omega
      · have hkN : k = N + 1 := by omega
        subst hkN
        have hq1 : q.take (N + 1) = q := List.take_of_length_le (by rw [hqN.out]; exact Nat.le_refl _)
        rw [hq1] at hown
        have hlt0 : 0 < q.length := by rw [hqN.out]; omega
        obtain ⟨b9, off9, e9, _, hc0⟩ := txt_at (own_strs_at (by rw [← hqN.out] at hall; exact hall)) 0 hlt0
        cases e9
        obtain ⟨X, hX⟩ : ∃ X, X = q[0] := ⟨_, rfl⟩
        rw [← hX, Nat.zero_add] at hc0
        have hS : wr.cell? ⟨gA, 0, none⟩ = some (.string X) ∧ True := ⟨hc0, trivial⟩
        obtain ⟨A0, c0, rfl, hat, hkq, _⟩ := own_strs hown
        have HX0 := hid (fun (v : World) (hb : Below wr.heap.size wr v) => c_XorTexts A0 c0 (lens q) _ v (hat.below hb (Nat.le_refl _)) hb.size (fun s hs => by rw [lens_size q s hs]; omega))
        rw [← hkq] at HX0 ⊢
        obtain ⟨P, hP⟩ : ∃ P, P = str (xall (lens q)) := ⟨_, rfl⟩
        rw [← hP] at HX0 HR2
        have hPp : P = p.extract 0 2 := HR2.out.1
        have hp2 : (2 : Int) ≤ (p.size : Int) := by have := HR2.out.2; omega
        have hTp : (T.size : Int) ≤ (p.size : Int) - 2 := by have := HR2.out.2; omega
        have e5 : (P.toList == (p.extract 0 2).toList) = true := by rw [hPp]; simp
        clear hP hX hown hall hat hkq hq1 hc0 hPp HR2
        go_wp2_with fail
        refine wp_region_noPanic ?_
        refine wp_region_held_drew (S := (fun v => v.cell? ⟨gA, 0, none⟩ = some (.string X) ∧ True)) (by kernel_rfl) (t1_drew hS) (fun hHeld => ?_)
        refine tk 0 ?_
        refine tk 2 ?_
        refine tk 3 ?_
        refine wpAnyH_ready (rs := [1]) (by kernel_rfl) (by simp) ?_
        refine AllReadyH.cons (o := ?or2_1) ?ir2_1 (fun K hK => ?sr2_1) AllReadyH.nil
        case ir2_1 => (simp only [List.getElem?_toArray, List.getElem?_cons_succ, List.getElem?_cons_zero]; rfl)
        (go_simp; (go_at_call 9; refine (HX0.out _ (by (repeat (first | with_reducible (first | assumption | exact Below.refl _ _ | refine bel_alloc ?_ _ | refine bel_drew ?_ | refine bel_drewN ?_ _ | refine bel_set ?_ (by first | omega | (simp; done) | (simp; omega)) _ | refine bel_trans ?_ (by assumption)) | assumption | refine bel_trans ?_ (by assumption))))).mono ?_; rintro e w8 ⟨rfl, hb8⟩))
        refine hK.out _ _ ?kr2_1 (fun hHeld => ?_)
        case kr2_1 => (try dsimp only); (first | with_reducible assumption | exact t1_bel (by assumption) (by assumption) | assumption | exact t1_alloc (by assumption) _)
        clear hK K
        try simp only [Act.put, List.setIfInBounds_toArray, List.set_cons_zero, List.set_cons_succ]
        refine wpAnyH_ready (rs := [4]) (by kernel_rfl) (by simp) ?_
        refine AllReadyH.cons (o := ?or2_4) ?ir2_4 (fun K hK => ?sr2_4) AllReadyH.nil
        case ir2_4 => (simp only [List.getElem?_toArray, List.getElem?_cons_succ, List.getElem?_cons_zero]; rfl)
        ((go_simp; try rw [e5]))
        refine hK.out _ _ ?kr2_4 (fun hHeld => ?_)
        case kr2_4 => (try dsimp only); (first | with_reducible assumption | exact t1_bel (by assumption) (by assumption) | assumption | exact t1_alloc (by assumption) _)
        clear hK K
        try simp only [Act.put, List.setIfInBounds_toArray, List.set_cons_zero, List.set_cons_succ]
        refine tk 5 ?_
        refine tk 6 ?_
        refine tk 7 ?_
        refine tk 8 ?_
        refine tk 9 ?_
        refine tk 10 ?_
        refine tk 11 ?_
        refine tk 12 ?_
        refine tk 13 ?_
        refine wpAnyH_done (by kernel_rfl) ?_ _
        refine NoPanic.normal ?_
        have e6 : decide ((T.size : Int) ≤ IntKind.i64.wrap ((p.size : Int) - 2)) = true := by rw [IntWalk.i64_in _ (by omega)]; exact decide_eq_true hTp
        rw [e6]
        have hB8 : Below w.heap.size w w8 := by (repeat (first | with_reducible (first | assumption | exact Below.refl _ _ | refine bel_alloc ?_ _ | refine bel_drew ?_ | refine bel_drewN ?_ _ | refine bel_set ?_ (by first | omega | (simp; done) | (simp; omega)) _ | refine bel_trans ?_ (by assumption)) | assumption | refine bel_trans ?_ (by assumption)))
        clear hb8 hS hTp e5 e6
        go_wp2
        go_ret
        exact ⟨rfl, hB8⟩
end Go.Proofs.Ytlekjmgjnnljcaa
