/- The contract of a writer's write. No condition but that the data fits. -/
import Derived.Test.YtfklkepodpcdgaaQp
import Derived.Test.YtfklkepodpcdgaaQq
namespace Go.Proofs.Ytfklkepodpcdgaa
open Go.ChangeShapes Go.WideShapes Go.ChangeAt Go.RowKit Go.Joins
set_option linter.unusedVariables false
set_option linter.unusedSimpArgs false

/-- the length of the string in a cell -/
def wlen (wb : Nat) (w : World) : Nat := match w.cell? ⟨wb, 1, none⟩ with
  | some (.string S) => S.size
  | _ => 0
theorem wr_cut (l : List UInt8) (g : Nat) (hg : g ≤ l.length) : (str l).extract g (str l).size = str (l.drop g) := by
  have h := cut_drop (str l) g
  rw [str_list] at h
  rw [← h, str_self]
theorem str_add (l : List UInt8) (D : ByteArray) : str l ++ D = str (l ++ D.data.toList) := by
  rw [← str_append, str_self]
theorem str_first {l : List UInt8} {c : Int} (h : Lits c l) (h0 : 0 < (str l).size) : (((str l)[0]).toNat : Int) < c := by
  cases l with
  | nil => simp [str_size] at h0
  | cons a t =>
    have : (str (a :: t))[0] = a := rfl
    rw [this]
    exact h a (by simp)
section
variable (L wb : Nat) (T : TypeId) (xs : List Value) (pd : Nat → Prop) (fb : Nat) (sv : Value) (x : Wr) (w : World)

theorem c_wwrite_nil (h : WS L wb T xs pd fb sv x w) : Calls Try.prog 180 #[.pointer (some ⟨wb, 0, none⟩), .string ByteArray.empty] w fun e w' => e = .returned (.tuple #[]) ∧ Below L w w' ∧ WCalm pd w w' ∧ ∃ v', WS L wb T xs pd fb v' x w' := by
  have H := hid h
  clear h
  go_enter Try.func180, Try.ntmps180
  go_wp2
  exact bodyPost_ret (v := .tuple #[]) (by simp [results, Try.results180, go_sem]) rfl ⟨rfl, Below.refl _ _, WCalm.refl _ _, _, H.out⟩

set_option maxHeartbeats 4000000 in
set_option maxRecDepth 100000 in
theorem c_wwrite (hT : WT T) (hx : x.Go) (hL : L ≤ w.heap.size) (D : ByteArray) (hD : 0 < D.size) (hl : Lits x.k.c D.data.toList) (hbl : x.b.length ≤ 7) (hn : x.p.length + D.size ≤ 2000) (h : WS L wb T xs pd fb sv x w) : Calls Try.prog 180 #[.pointer (some ⟨wb, 0, none⟩), .string D] w fun e w' => e = .returned (.tuple #[]) ∧ Below L w w' ∧ WCalm pd w w' ∧ ∃ v', WS L wb T xs pd fb v' (x.write D.data.toList) w' := by
  obtain ⟨a1, a2, a3, a4, a5, a6, a7, a8⟩ := hx.start
  have hDl : D.data.toList.length = D.size := len_toList D
  have hDne : D.data.toList ≠ [] := fun e => by rw [e] at hDl; simp at hDl; omega
  obtain ⟨x0, hx0⟩ : ∃ x0 : Wr, x0 = { x.start with p := x.p ++ D.data.toList } := ⟨_, rfl⟩
  have hg0 : x0.Go := by
    rw [hx0]
    exact ⟨a1.ok, fun b hb => by
      show (b.toNat : Int) < x.start.k.c
      rw [a4]
      rcases List.mem_append.1 hb with h1 | h1
      · exact hx.lit b h1
      · exact hl b h1, a1.bit⟩
  have hp0 : x0.p = x.p ++ D.data.toList := by rw [hx0]
  have hp0l : x0.p.length = x.p.length + D.size := by rw [hp0, List.length_append, hDl]
  have hne0 : x0.p ≠ [] := by rw [hp0]; simp [hDne]
  have hph0 : x0.phi ≤ 70000 := by
    have e1 : x0.phi = 2 * x0.b.length + 30 * x0.p.length + 10 * x0.k.phi := rfl
    have e2 := Wr.phi_le x0.k
    have e3 : x0.b.length ≤ 17 := by rw [hx0]; show x.start.b.length ≤ 17; omega
    omega
  have HW := hid (show x.write D.data.toList = Wr.loop x0.p.length x0 by
    unfold Wr.write
    rw [if_neg hDne, ← hx0, hp0l, hDl])
  rw [HW.out]
  have HSt := hid (fun (v2 : Value) (W : World) (hW : WS L wb T xs pd fb v2 x.start W) => hW.at_ hT 1 (.string (str x0.p)) v2 x0 (by rw [hx0]) (by rw [hx0]; exact hW.row) hW.ap (by rw [hx0]; simp))
  have hadd : ∀ W, (Op.stringOp .add (str x.p) D).run Try.prog W = .ok (.string (str x0.p)) W := fun W => by
    rw [run_string_add_sum W _ _ (by rw [str_size]; omega), str_add, hp0]
  have he := not_empty (D := D) (by omega)
  have H := hid h
  have HX := hid hx
  have HT := hid hT
  have HG0 := hid (Wr.Sv.refl hg0 hne0)
  have HP := hid a2
  clear h hx hT a1 a2 a3 a4 a5 a6 a7 a8 hx0 hg0 hp0 hne0 hDl hDne HW hl
  go_enter Try.func180, Try.ntmps180
  go_wp2_with fail
  refine (c_begin L wb T xs pd fb sv x _ HT.out HX.out hL (by omega) H.out).mono ?_
  rintro e w1 ⟨rfl, hb1, hc1, v1, h1⟩
  have HB1 := hid hb1
  have HC1 := hid hc1
  have H1 := hid h1
  have p1 : w1.cell? ⟨wb, 1, none⟩ = some (.string (str x.p)) := by rw [← HP.out]; exact H1.out.c1
  have f1 := H1.out.f 1
  clear hb1 hc1 h1
  go_wp2_with fail
  have H2 := hid (HSt.out v1 w1 H1.out)
  have HB2 := hid (HB1.out.setCell (p := ⟨wb, 1, none⟩) H1.out.lb (.string (str x0.p)))
  have HC2 := hid (HC1.out.trans (WCalm.store pd H1.out.bx HT.out 1 (.string (str x0.p))))
  clear p1 f1 H1 HB1 HC1 HSt hadd
  go_loopw [4, 5] (fun _ _ wr => ∃ (y : Wr) (f : Nat) (v2 : Value), Hid (Wr.Sv x0 y) ∧ y.p.length ≤ f ∧ Hid (Wr.loop x0.p.length x0 = Wr.loop f y) ∧ Hid (WS L wb T xs pd fb v2 y wr) ∧ Hid (Below L w wr) ∧ Hid (WCalm pd w wr)) (fun _ _ wr => wlen wb wr)
  case atStart => exact ⟨x0, x0.p.length, v1, HG0, Nat.le_refl _, hid rfl, H2, HB2, HC2⟩
  case round =>
    clear H2 HB2 HC2
    obtain ⟨y, f, v2, HS, hf, HL, H3, HB, HC⟩ := hrel
    have hpl := HS.out.ph
    have hph : y.phi = 2 * y.b.length + 30 * y.p.length + 10 * y.k.phi := rfl
    have hyl : y.p.length ≤ 2500 := by omega
    have hyb : y.b.length ≤ 40000 := by omega
    have hy0 : 0 < y.p.length := List.length_pos_iff.2 HS.out.ne
    have hms : wlen wb wr = y.p.length := by unfold wlen; rw [H3.out.c1]; simp [str_size]
    obtain ⟨c1, c2, c3, c4⟩ := HS.out.go.ok.code1 HS.out.ne HS.out.go.lit
    have HFo := hid c1
    obtain ⟨S, hS⟩ : ∃ S, S = str y.p := ⟨_, rfl⟩
    obtain ⟨g, hg⟩ : ∃ g, g = y.k.lng y.p := ⟨_, rfl⟩
    obtain ⟨code, hcode⟩ : ∃ code, code = y.k.code1 y.p := ⟨_, rfl⟩
    have hSs : S.size = y.p.length := by rw [hS, str_size]
    have HLo := hid (fun (u : World) (hF : FAt L fb y.k u) => c_flongest L fb y.k (str y.p) u HS.out.go.ok hF (by rw [str_size]; exact hy0) (by rw [str_size]; omega) (str_first HS.out.go.lit (by rw [str_size]; exact hy0)))
    simp only [str_list, ← hg, ← hcode] at HLo
    simp only [← hS] at HLo
    rw [← hg] at c3 c4
    rw [← hcode] at HFo
    have HSl := hid (fun (W : World) => show (Instr.slice 9 (.string S) (some (.int .i64 (g : Int))) none none).run Try.prog W = .ok (.string (str (y.p.drop g))) W by
      rw [run_slice_string_l W 9 S Try.underlying9 .i64 (g : Int) (by omega) (by omega)]
      have := wr_cut y.p g c4
      rw [← hS] at this
      rw [← this]
      rfl)
    have q1 : wr.cell? ⟨wb, 1, none⟩ = some (.string S) := by rw [hS]; exact H3.out.c1
    have q0 : wr.cell? ⟨wb, 0, none⟩ = some (.pointer (some ⟨fb, 0, none⟩)) := H3.out.c0
    have HSe := hid hS
    have HG := hid hg
    have HCo := hid hcode
    clear c1 c2 hS hg hcode hpl hph
    have hS : wr.cell? ⟨wb, 0, none⟩ = some (.pointer (some ⟨fb, 0, none⟩)) ∧ wr.cell? ⟨wb, 1, none⟩ = some (.string S) ∧ True := ⟨q0, q1, trivial⟩
    clear q0 q1
    go_wp2_with fail
    replace H3 := hid (H3.out.on (bel_drew (Below.refl _ wr)))
    replace HB := hid (HB.out.drew)
    replace HC := hid (HC.out.on (bel_drew (Below.refl _ wr)))
    refine wp_region_noPanic ?_
    refine wp_region_held_drew (S := (fun v => v.cell? ⟨wb, 0, none⟩ = some (.pointer (some ⟨fb, 0, none⟩)) ∧ v.cell? ⟨wb, 1, none⟩ = some (.string S) ∧ True)) (by kernel_rfl) (t2_drew hS) (fun hHeld => ?_)
    refine tk 0 ?_
    refine tk 1 ?_
    refine tk 2 ?_
    refine tk 3 ?_
    refine tk 4 ?_
    refine tk 5 ?_
    refine tk 6 ?_
    refine tk 7 ?_
    refine wpAnyH_ready (rs := [8]) (by kernel_rfl) (by simp) ?_
    refine AllReadyH.cons (o := ?or1_8) ?ir1_8 (fun K hK => ?sr1_8) AllReadyH.nil
    case ir1_8 => (simp only [List.getElem?_toArray, List.getElem?_cons_succ, List.getElem?_cons_zero]; rfl)
    (go_simp; (go_at_call 146; refine (HLo.out _ H3.out.fa).mono ?_; rintro e wQ ⟨rfl, hbQ⟩; replace H3 := hid (H3.out.on hbQ); replace HB := hid (HB.out.trans (hbQ.mono (Nat.le_trans hL HB.out.size))); replace HC := hid (HC.out.on hbQ); have t2 : wQ.cell? ⟨wb, 0, none⟩ = some (.pointer (some ⟨fb, 0, none⟩)) ∧ wQ.cell? ⟨wb, 1, none⟩ = some (.string S) ∧ True := ⟨H3.out.c0, by rw [HSe.out]; exact H3.out.c1, trivial⟩))
    refine hK.out _ _ ?kr1_8 (fun hHeld => ?_)
    case kr1_8 => (try dsimp only); (first | with_reducible assumption | with_reducible exact t2 | exact t2_bel (by assumption) (by assumption) | assumption | exact t2_alloc (by assumption) _ | exact t2)
    clear hK K
    try simp only [Act.put, List.setIfInBounds_toArray, List.set_cons_zero, List.set_cons_succ]
    refine tk 9 ?_
    refine tk 10 ?_
    refine tk 11 ?_
    refine tk 12 ?_
    refine tk 13 ?_
    refine wpAnyH_done (by kernel_rfl) ?_ _
    refine NoPanic.normal ?_
    clear hHeld t2 hbQ hS HLo
    have q1 : wQ.cell? ⟨wb, 1, none⟩ = some (.string S) := by rw [HSe.out]; exact H3.out.c1
    by_cases hlt : g = y.p.length
    · have he1 : ((g : Int) == (S.size : Int)) = true := eq_yes (by omega)
      have HY := hid (show Wr.loop f y = y by
        cases f with
        | zero => rfl
        | succ f => unfold Wr.loop; rw [if_pos (by rw [← HG.out]; exact hlt)])
      clear hlt
      go_wp2
      exact bodyPost_ret (v := .tuple #[]) (by simp [results, Try.results180, go_sem]) rfl ⟨rfl, HB.out, HC.out, _, by rw [HL.out, HY.out]; exact H3.out⟩
    · have he1 : ((g : Int) == (S.size : Int)) = false := by
        have : ¬ ((g : Int) = (S.size : Int)) := by omega
        simpa using this
      have HN := hid (HS.out.next (by rw [← HG.out]; exact hlt))
      obtain ⟨f', HF'⟩ : ∃ f', Hid (f = f' + 1) := ⟨f - 1, hid (by omega)⟩
      have HL2 := hid (show Wr.loop f y = Wr.loop f' y.one.room by
        rw [HF'.out]
        conv => lhs; unfold Wr.loop
        rw [if_neg (by rw [← HG.out]; exact hlt)])
      have HPut := hid (HS.out.go.put (Or.inr (Or.inr HFo.out)))
      have hone := (HS.out.go.one HS.out.ne).1
      have HOne := hid hone
      have HNe := hid (HS.out.go.more HS.out.ne (by rw [← HG.out]; exact hlt))
      clear hone hlt
      go_wp2_with fail
      refine (c_put L wb T xs pd fb v2 y _ HT.out HS.out.go (Nat.le_trans hL HB.out.size) (by omega) H3.out code (Or.inr (Or.inr HFo.out))).mono ?_
      rintro e w5 ⟨rfl, hb5, hc5, v5, h5⟩
      have HB5 := hid (HB.out.trans hb5)
      have HC5 := hid (HC.out.trans hc5)
      have H5 := hid h5
      have r1 : w5.cell? ⟨wb, 1, none⟩ = some (.string S) := by
        have := H5.out.c1
        rw [HPut.out.2.1, ← HSe.out] at this
        exact this
      have r0 := H5.out.c0
      have f1 := H5.out.f 1
      have hsl := HSl.out
      clear hb5 hc5 h5 q1 H3 HB HC
      go_wp2_with fail
      have H6 := hid (show WS L wb T xs pd fb v5 y.one (w5.setCell ⟨wb, 1, none⟩ (.string (str (y.p.drop g)))) from H5.out.at_ HT.out 1 _ v5 y.one (by rw [HCo.out]; rfl) (by rw [HCo.out] at H5; exact H5.out.row) H5.out.ap (by rw [HG.out, HCo.out]; simp [Wr.one]))
      have HB6 := hid (HB5.out.setCell (p := ⟨wb, 1, none⟩) H5.out.lb (.string (str (y.p.drop g))))
      have HC6 := hid (HC5.out.trans (WCalm.store pd H5.out.bx HT.out 1 (.string (str (y.p.drop g)))))
      obtain ⟨W6, hW6⟩ : ∃ W6, W6 = w5.setCell ⟨wb, 1, none⟩ (.string (str (y.p.drop g))) := ⟨_, rfl⟩
      rw [← hW6] at H6 HB6 HC6 ⊢
      obtain ⟨A6, cp6, hkat⟩ := H6.out.fa.kat
      have HNc := hid (c_needsClear fb y.one.k A6 cp6 W6 HOne.out.ok hkat)
      clear hW6 H5 HB5 HC5 hkat r0 r1 f1 hsl
      by_cases hn : y.one.k.need
      · simp only [decide_eq_true hn] at HNc
        have HRm := hid (show y.one.room = y.one.put y.one.k.c by unfold Wr.room; rw [if_pos hn])
        have hset := HOne.out.ok.set
        have hce : y.one.k.c = pow2 y.one.k.l := rfl
        have HCl := hid (fun (u : World) => c_ClearCode_yes y.one.k.o y.one.k.l y.one.k.m u hset)
        obtain ⟨C, hC⟩ : ∃ C, C = pow2 y.one.k.l := ⟨_, rfl⟩
        have HCq := hid (show y.one.k.c = C from hC.symm)
        simp only [← hC] at HCl
        have hb1 := hid (HS.out.go.one HS.out.ne).2.1
        have hob : y.one.b.length ≤ 50000 := by
          have e := (HS.out.go.one HS.out.ne).2.2.2.2.2.2.2.2.2
          omega
        clear hn hset hce hC hb1
        refine HNc.out.mono ?_
        rintro e w7 ⟨rfl, hb7⟩
        have H7 := hid (H6.out.on hb7)
        have HB7 := hid (HB6.out.trans (hb7.mono (Nat.le_trans hL HB6.out.size)))
        have HC7 := hid (HC6.out.on hb7)
        clear hb7 H6 HB6 HC6 HNc
        go_wp2_with fail
        refine (c_wset L wb T xs pd fb _ _ _ H7.out).mono ?_
        rintro e w8 ⟨rfl, hb8⟩
        have H8 := hid (H7.out.on hb8)
        have HB8 := hid (HB7.out.trans (hb8.mono (Nat.le_trans hL HB7.out.size)))
        have HC8 := hid (HC7.out.on hb8)
        clear hb8 H7 HB7 HC7
        go_wp2_with fail
        refine (HCl.out _).mono ?_
        rintro e w9 ⟨rfl, hb9⟩
        have H9 := hid (H8.out.on hb9)
        have HB9 := hid (HB8.out.trans (hb9.mono (Nat.le_trans hL HB8.out.size)))
        have HC9 := hid (HC8.out.on hb9)
        clear hb9 H8 HB8 HC8
        go_wp2_with fail
        refine (c_put L wb T xs pd fb _ _ _ HT.out HOne.out (Nat.le_trans hL HB9.out.size) (by omega) H9.out C (Or.inl HCq.out.symm)).mono ?_
        rintro e wA ⟨rfl, hbA, hcA, vA, hA⟩
        rw [← HCq.out, ← HRm.out] at hA
        have HA := hid hA
        have HBA := hid (HB9.out.trans hbA)
        have HCA := hid (HC9.out.trans hcA)
        have hmA : wlen wb wA = y.one.room.p.length := by unfold wlen; rw [hA.c1]; simp [str_size]
        clear hA hbA hcA H9 HB9 HC9
        go_wp2
        go_roundw
        case rel => exact ⟨y.one.room, f', vA, hid HN.out.1, by have := HN.out.2; have := HF'.out; omega, hid (HL.out.trans HL2.out), HA, HBA, HCA⟩
        case measure => rw [hmA, hms]; exact HN.out.2
      · simp only [decide_eq_false hn] at HNc
        have HRm := hid (show y.one.room = y.one by unfold Wr.room; rw [if_neg hn])
        clear hn
        refine HNc.out.mono ?_
        rintro e w7 ⟨rfl, hb7⟩
        have H7 := hid (H6.out.on hb7)
        have HB7 := hid (HB6.out.trans (hb7.mono (Nat.le_trans hL HB6.out.size)))
        have HC7 := hid (HC6.out.on hb7)
        rw [← HRm.out] at H7
        have hmA : wlen wb w7 = y.one.room.p.length := by unfold wlen; rw [H7.out.c1]; simp [str_size]
        clear hb7 H6 HB6 HC6 HNc
        go_wp2
        go_roundw
        case rel => exact ⟨y.one.room, f', _, hid HN.out.1, by have := HN.out.2; have := HF'.out; omega, hid (HL.out.trans HL2.out), H7, HB7, HC7⟩
        case measure => rw [hmA, hms]; exact HN.out.2
end
end Go.Proofs.Ytfklkepodpcdgaa
