/- Contracts of WordUses in both programs. No condition but that the numbers are int's. -/
import Derived.Test.YtfklkepodpcdgaaGc
import Derived.Test.YtfklkepodpcdgaaBg
namespace Go.Proofs.Ytfklkepodpcdgaa
open Go.ChangeShapes Go.WideShapes Go.ChangeAt Go.RowKit Go.Joins
set_option linter.unusedVariables false
set_option linter.unusedSimpArgs false

/-- one use more, if the code is that of a kept word -/
def bump (b : Nat) (f : Int) (u : List Int) (c : Int) : List Int := if 0 ≤ c - f ∧ c - f < b then u.set (c - f).toNat ((u[(c - f).toNat]?.getD 0) + 1) else u
def usesL (b : Nat) (f : Int) (cs : List Int) : List Int := cs.foldl (bump b f) (List.replicate b 0)
def Kn.uses (k : Kn) (d : List UInt8) : List Int := usesL k.base.toNat (k.c + 2) (k.greedy d)
theorem usesL_snoc (b : Nat) (f : Int) (cs : List Int) (n : Nat) (h : n < cs.length) : usesL b f (cs.take (n + 1)) = bump b f (usesL b f (cs.take n)) cs[n] := by
  rw [List.take_succ_eq_append_getElem h, usesL, List.foldl_append]; rfl
theorem bump_len (b : Nat) (f : Int) (u : List Int) (c : Int) : (bump b f u c).length = u.length := by unfold bump; split <;> simp
theorem usesL_len (b : Nat) (f : Int) (cs : List Int) : (usesL b f cs).length = b := by
  unfold usesL
  have : ∀ (cs : List Int) (u : List Int), (cs.foldl (bump b f) u).length = u.length := by
    intro cs
    induction cs with
    | nil => intro u; rfl
    | cons c t ih => intro u; rw [List.foldl_cons, ih, bump_len]
  rw [this]; simp
theorem usesL_bd (b : Nat) (f : Int) (cs : List Int) : ∀ (i : Nat) (x : Int), (usesL b f cs)[i]? = some x → 0 ≤ x ∧ x ≤ cs.length := by
  have : ∀ (cs : List Int) (u : List Int) (m : Int), 0 ≤ m → (∀ (i : Nat) (x : Int), u[i]? = some x → 0 ≤ x ∧ x ≤ m) → ∀ (i : Nat) (x : Int), (cs.foldl (bump b f) u)[i]? = some x → 0 ≤ x ∧ x ≤ m + cs.length := by
    intro cs
    induction cs with
    | nil => intro u m hm h i x hx; have := h i x hx; simp; omega
    | cons c t ih =>
      intro u m hm h i x hx
      have := ih (bump b f u c) (m + 1) (by omega) (fun i x hx => by
        unfold bump at hx
        split at hx
        · rw [List.getElem?_set] at hx
          split at hx
          · split at hx
            · have e := Option.some.inj hx
              cases hu : u[(c - f).toNat]? with
              | none => rw [hu] at e; simp at e; omega
              | some y => rw [hu] at e; have := h _ _ hu; simp at e; omega
            · simp at hx
          · have := h _ _ hx; omega
        · have := h _ _ hx; omega) i x hx
      simp; omega
  intro i x hx
  have := this cs (List.replicate b 0) 0 (by omega) (fun i x hx => by
    rw [List.getElem?_replicate] at hx
    split at hx
    · simp at hx; omega
    · simp at hx) i x hx
  omega

theorem c_WordUses_no (k : Kn) (A : Option Addr) (cap L : Nat) (w : World) (h : PsAt w L A cap k.ps) (hL : L ≤ w.heap.size) (D : ByteArray) (hs : D.size ≤ maxLen) (hk : ¬ FitsOk k D) (hw : k.Wf) : Calls Try.prog 42 #[.agg #[.int .i64 k.o, .int .i64 k.l, .int .i64 k.m, .slice A k.ps.length cap, .int .i64 k.base, .int .i64 k.last], .string D] w fun e w' => ∃ A' cap', e = .returned (.tuple #[.slice A' ([] : List Int).length cap', .bool false]) ∧ w'.ownsRow w.heap.size 3 1 (.slice A' ([] : List Int).length cap') ([] : List Int).length (([] : List Int).map iv) ∧ Below w.heap.size w w' := by
  have HG := hid (fun (v : World) (hb : Below w.heap.size w v) => c_GreedyCodes_nope k A cap L v (h.below hb hL) (Nat.le_trans hL hb.size) D hs hk hw)
  obtain ⟨p0, p1, p2, p3, p4, p5⟩ := (Blk.new w 55 #[.int .i64 k.o, .int .i64 k.l, .int .i64 k.m, .slice A k.ps.length cap, .int .i64 k.base, .int .i64 k.last]).cells6
  clear h hk hw
  go_enter Try.func42, Try.ntmps42
  go_wp2_with fail
  refine (HG.out _ (by (repeat (first | with_reducible (first | assumption | exact Below.refl _ _ | refine bel_alloc ?_ _ | refine bel_drew ?_ | refine bel_drewN ?_ _ | refine bel_set ?_ (by first | omega | (simp; done) | (simp; omega)) _ | refine bel_trans ?_ (by assumption)) | assumption | refine bel_trans ?_ (by assumption))))).mono ?_
  rintro e w1 ⟨rfl, hb1⟩
  go_wp2
  go_ret2
  exact ⟨none, 0, rfl, own_ints_nil _ _ _, by (repeat (first | with_reducible (first | assumption | exact Below.refl _ _ | refine bel_alloc ?_ _ | refine bel_drew ?_ | refine bel_drewN ?_ _ | refine bel_set ?_ (by first | omega | (simp; done) | (simp; omega)) _ | refine bel_trans ?_ (by assumption)) | assumption | refine bel_trans ?_ (by assumption)))⟩

set_option maxHeartbeats 4000000 in
set_option maxRecDepth 100000 in
theorem c_WordUses_yes (k : Kn) (A : Option Addr) (cap L : Nat) (w : World) (h : PsAt w L A cap k.ps) (hL : L ≤ w.heap.size) (D : ByteArray) (hk : FitsOk k D) (hw : k.Wf) : Calls Try.prog 42 #[.agg #[.int .i64 k.o, .int .i64 k.l, .int .i64 k.m, .slice A k.ps.length cap, .int .i64 k.base, .int .i64 k.last], .string D] w fun e w' => ∃ A' cap', e = .returned (.tuple #[.slice A' (k.uses D.data.toList).length cap', .bool true]) ∧ w'.ownsRow w.heap.size 3 1 (.slice A' (k.uses D.data.toList).length cap') (k.uses D.data.toList).length ((k.uses D.data.toList).map iv) ∧ Below w.heap.size w w' := by
  have HG := hid (fun (v : World) (hb : Below w.heap.size w v) => c_GreedyCodes_yes k A cap L v (h.below hb hL) (Nat.le_trans hL hb.size) D hk.1 hk.2 hw)
  have hset := (setOk_iff.1 hk.1.set)
  have hb0 := hk.1.base0
  have hb1 := hk.1.base1
  have hlen := hk.1.len
  have hgl := hk.len
  have hgd := hid (hk.1.good_each (hk.codes).2.2)
  have hcb := hk.1.cbd
  obtain ⟨cs, hcs⟩ : ∃ cs, cs = k.greedy D.data.toList := ⟨_, rfl⟩
  have HU := hid (show k.uses D.data.toList = usesL k.base.toNat (k.c + 2) cs by rw [hcs]; rfl)
  rw [HU.out]
  simp only [← hcs] at HG hgl hgd
  have HOk := hid hk.1
  have eul := usesL_len k.base.toNat (k.c + 2) cs
  rw [eul]
  obtain ⟨N, hN⟩ : ∃ N, N = cs.length := ⟨_, rfl⟩
  rw [← hN] at hgl
  simp only [← hN] at HG
  obtain ⟨b0, hbb⟩ : ∃ b0 : Nat, b0 = k.base.toNat := ⟨_, rfl⟩
  have HB := hid (show k.base = (b0 : Int) by omega)
  rw [← hbb]
  obtain ⟨C, hC⟩ : ∃ C, C = pow2 k.l := ⟨_, rfl⟩
  have HC := hid (show k.c = C from hC.symm)
  have HP2 := hid (show pow2 k.l = C from hC.symm)
  have HN := hid hN
  have kN := Blk.new w 55 #[.int .i64 k.o, .int .i64 k.l, .int .i64 k.m, .slice A k.ps.length cap, .int .i64 k.base, .int .i64 k.last]
  have hcC : 2 ≤ C ∧ C ≤ 256 := by rw [← HC.out]; omega
  rw [HC.out]
  have hbs : b0 ≤ 1020 := by omega
  have hl30 : 0 ≤ k.l ∧ k.l ≤ 30 := by omega
  clear h hk hw hcs hN hbb eul hset hb0 hb1 hlen hcb hC
  obtain ⟨p0, p1, p2, p3, p4, p5⟩ := kN.cells6
  rw [HB.out] at p4
  go_enter Try.func42, Try.ntmps42
  go_wp2_with fail
  refine (HG.out _ (by (repeat (first | with_reducible (first | assumption | exact Below.refl _ _ | refine bel_alloc ?_ _ | refine bel_drew ?_ | refine bel_drewN ?_ _ | refine bel_set ?_ (by first | omega | (simp; done) | (simp; omega)) _ | refine bel_trans ?_ (by assumption)) | assumption | refine bel_trans ?_ (by assumption))))).mono ?_
  rintro e w1 ⟨A1, c1, rfl, hown1, hb1⟩
  have HC1 := hid (own_ints_at hown1)
  have HK1 := hid (kN.on hb1)
  have hB1 : Below w.heap.size w w1 := by (repeat (first | with_reducible (first | assumption | exact Below.refl _ _ | refine bel_alloc ?_ _ | refine bel_drew ?_ | refine bel_drewN ?_ _ | refine bel_set ?_ (by first | omega | (simp; done) | (simp; omega)) _ | refine bel_trans ?_ (by assumption)) | assumption | refine bel_trans ?_ (by assumption)))
  clear hown1 hb1 p0 p1 p2 p3 p4 p5 kN
  have p4 : w1.cell? ⟨w.heap.size, 4, none⟩ = some (.int .i64 (b0 : Int)) := by rw [← HB.out]; exact HK1.out.cell 4
  go_wp2_with (at_make; refine make_ints rfl _ _ 49 rfl w1.heap.size 3 Try.underlying49 Try.info_int .i64 .i64 _ _ b0 rfl rfl (by omega) (by omega) (by omega) (Nat.le_refl _) ?_; intro w2 hown2 hb2 hg2)
  have HK2 := hid (HK1.out.on hb2)
  clear p4
  go_loopw [25] (fun i wr => ∃ n : Nat, n ≤ N ∧ i = .int .i64 n ∧ wr.ownsRow w1.heap.size 3 1 (.slice (some ⟨w1.heap.size, 0, none⟩) b0 b0) b0 ((usesL b0 (C + 2) (cs.take n)).map iv) ∧ Hid (Blk wr w.heap.size 55 #[.int .i64 k.o, .int .i64 k.l, .int .i64 k.m, .slice A k.ps.length cap, .int .i64 k.base, .int .i64 k.last]) ∧ Below w1.heap.size w1 wr) (fun i _ => N - (intOf i).toNat)
  case atStart => exact ⟨0, Nat.zero_le _, rfl, by simpa [usesL] using hown2, HK2, hb2⟩
  case round =>
    obtain ⟨n, hn, rfl, hown, HK, hbl⟩ := hrel
    by_cases hlt : n < N
    · have hlt2 : n < cs.length := by have := HN.out; omega
      obtain ⟨b, off, rfl, hb, hc0⟩ := int_at (HC1.out.below hbl (Nat.le_refl _)) n hlt2
      obtain ⟨c, hcd⟩ : ∃ c, c = cs[n] := ⟨_, rfl⟩
      have hcb := hgd.out.1 n c (by rw [hcd]; exact List.getElem?_eq_getElem hlt2)
      have HSn := hid (usesL_snoc b0 (C + 2) cs n hlt2)
      rw [← hcd] at hc0 HSn
      have HBd := hid (usesL_bd b0 (C + 2) (cs.take n))
      have hUl := usesL_len b0 (C + 2) (cs.take n)
      have hTl : (cs.take n).length ≤ 4000 := by rw [List.length_take]; omega
      obtain ⟨U, hU⟩ : ∃ U, U = usesL b0 (C + 2) (cs.take n) := ⟨_, rfl⟩
      rw [← hU] at hown HSn HBd hUl
      have hc1 := hc0
      clear hcd hlt2 hU hc0
      go_wp2_with fail
      have hk8 : wr.cell? ⟨w.heap.size, 0, none⟩ = some (.int .i64 k.o) := HK.out.cell 0
      have HFw := hid (c_firstWord w.heap.size k A cap wr HOk.out ⟨HK.out.lt, HK.out.cell 0, HK.out.cell 1, HK.out.cell 2, HK.out.cell 3, HK.out.cell 4, HK.out.cell 5⟩)
      refine HFw.out.mono ?_
      rintro e wQ ⟨rfl, hbQ⟩
      replace HK := hid (HK.out.on hbQ)
      replace hown := own_on hown hbQ
      replace hbl := bel_trans hbl hbQ
      clear hk8 HFw hbQ
      rw [HP2.out]
      have hcC2 := hcC
      obtain ⟨p, hp⟩ : ∃ p, p = c - (C + 2) := ⟨_, rfl⟩
      have hpp : c - (C + 2) = p := hp.symm
      have hpb : -9999 ≤ p ∧ p ≤ 9999 := by omega
      have HPp := hid hp
      clear hp
      by_cases h1 : 0 ≤ p
      · have hd1 : decide (0 ≤ p) = true := decide_eq_true h1
        by_cases h2 : p < (b0 : Int)
        · have hd2 : decide (p < (b0 : Int)) = true := decide_eq_true h2
          obtain ⟨j, rfl⟩ : ∃ j : Nat, p = (j : Int) := ⟨p.toNat, by omega⟩
          have hj : j < U.length := by omega
          obtain ⟨u, hu⟩ : ∃ u, U[j]? = some u := ⟨U[j], List.getElem?_eq_getElem hj⟩
          have hub := HBd.out j u hu
          have HSet := hid (show bump b0 (C + 2) U c = U.set j (u + 1) by
            unfold bump
            rw [← HPp.out, if_pos ⟨by omega, h2⟩]
            simp [hu])
          rw [HSet.out] at HSn
          have q0 := own_int hown j u hu
          have f0 := hown.frozenAt j
          have hst := own_store_int hown j (u + 1)
          have p4 : wQ.cell? ⟨w.heap.size, 4, none⟩ = some (.int .i64 (b0 : Int)) := by rw [← HB.out]; exact HK.out.cell 4
          have hne : w.heap.size ≠ w1.heap.size := by have := hB1.size; have := HK1.out.lt; omega
          have HKs := hid (HK.out.far j (.int .i64 (u + 1)) hne)
          have hbs2 : Below w1.heap.size w1 (wQ.setCell ⟨w1.heap.size, j, none⟩ (.int .i64 (u + 1))) := hbl.setCell (Nat.le_refl _) _
          clear hu h1 h2
          go_wp2
          go_roundw
          case rel => exact ⟨n + 1, by omega, by go_num, by rw [HSn.out]; exact hst, HKs, hbs2⟩
          case measure => simp [intOf]; omega
        · have hd2 : decide (p < (b0 : Int)) = false := decide_eq_false h2
          have HSet := hid (show bump b0 (C + 2) U c = U by
            unfold bump
            rw [← HPp.out, if_neg (fun e => h2 e.2)])
          rw [HSet.out] at HSn
          have p4 : wQ.cell? ⟨w.heap.size, 4, none⟩ = some (.int .i64 (b0 : Int)) := by rw [← HB.out]; exact HK.out.cell 4
          clear h1 h2
          go_wp2
          go_roundw
          case rel => exact ⟨n + 1, by omega, by go_num, by rw [HSn.out]; exact hown, HK, hbl⟩
          case measure => simp [intOf]; omega
      · have hd1 : decide (0 ≤ p) = false := decide_eq_false h1
        have HSet := hid (show bump b0 (C + 2) U c = U by
          unfold bump
          rw [← HPp.out, if_neg (fun e => h1 e.1)])
        rw [HSet.out] at HSn
        clear h1
        go_wp2
        go_roundw
        case rel => exact ⟨n + 1, by omega, by go_num, by rw [HSn.out]; exact hown, HK, hbl⟩
        case measure => simp [intOf]; omega
    · have HEn := hid (show cs.take n = cs by rw [List.take_of_length_le (by have := HN.out; omega)])
      rw [HEn.out] at hown
      have hO := own_mono (B' := w.heap.size) hown hB1.size
      go_wp2
      go_ret2
      exact ⟨_, _, rfl, hO, hB1.trans (hbl.mono hB1.size)⟩

theorem c_sWordUses_no (k : Kn) (A : Option Addr) (cap L : Nat) (w : World) (h : PsAt w L A cap k.ps) (hL : L ≤ w.heap.size) (D : ByteArray) (hs : D.size ≤ maxLen) (hk : ¬ FitsOk k D) (hw : k.Wf) : Calls Try.prog 40 #[.agg #[.int .i64 k.o, .int .i64 k.l, .int .i64 k.m, .slice A k.ps.length cap, .int .i64 k.base, .int .i64 k.last], .string D] w fun e w' => ∃ A' cap', e = .returned (.tuple #[.slice A' ([] : List Int).length cap', .bool false]) ∧ w'.ownsRow w.heap.size 3 1 (.slice A' ([] : List Int).length cap') ([] : List Int).length (([] : List Int).map iv) ∧ Below w.heap.size w w' := by
  have HG := hid (fun (v : World) (hb : Below w.heap.size w v) => c_sGreedyCodes_no k A cap L v (h.below hb hL) (Nat.le_trans hL hb.size) D hs hk hw)
  obtain ⟨p0, p1, p2, p3, p4, p5⟩ := (Blk.new w 55 #[.int .i64 k.o, .int .i64 k.l, .int .i64 k.m, .slice A k.ps.length cap, .int .i64 k.base, .int .i64 k.last]).cells6
  clear h hk hw
  go_enter Try.func40, Try.ntmps40
  go_wp2_with fail
  refine (HG.out _ (by (repeat (first | with_reducible (first | assumption | exact Below.refl _ _ | refine bel_alloc ?_ _ | refine bel_drew ?_ | refine bel_drewN ?_ _ | refine bel_set ?_ (by first | omega | (simp; done) | (simp; omega)) _ | refine bel_trans ?_ (by assumption)) | assumption | refine bel_trans ?_ (by assumption))))).mono ?_
  rintro e w1 ⟨A', cap', rfl, hown, hb1⟩
  go_wp2
  go_ret2
  exact ⟨some ⟨w1.heap.size, 0, none⟩, 0, rfl, World.ownsRow_made w1 #[] 0 (by have := hb1.size; simp at this; omega) (by unfold maxLen; omega) rfl, by (repeat (first | with_reducible (first | assumption | exact Below.refl _ _ | refine bel_alloc ?_ _ | refine bel_drew ?_ | refine bel_drewN ?_ _ | refine bel_set ?_ (by first | omega | (simp; done) | (simp; omega)) _ | refine bel_trans ?_ (by assumption)) | assumption | refine bel_trans ?_ (by assumption)))⟩

set_option maxHeartbeats 4000000 in
set_option maxRecDepth 100000 in
theorem c_sWordUses_yes (k : Kn) (A : Option Addr) (cap L : Nat) (w : World) (h : PsAt w L A cap k.ps) (hL : L ≤ w.heap.size) (D : ByteArray) (hk : FitsOk k D) (hw : k.Wf) : Calls Try.prog 40 #[.agg #[.int .i64 k.o, .int .i64 k.l, .int .i64 k.m, .slice A k.ps.length cap, .int .i64 k.base, .int .i64 k.last], .string D] w fun e w' => ∃ A' cap', e = .returned (.tuple #[.slice A' (k.uses D.data.toList).length cap', .bool true]) ∧ w'.ownsRow w.heap.size 3 1 (.slice A' (k.uses D.data.toList).length cap') (k.uses D.data.toList).length ((k.uses D.data.toList).map iv) ∧ Below w.heap.size w w' := by
  have HG := hid (fun (v : World) (hb : Below w.heap.size w v) => c_sGreedyCodes_yes k A cap L v (h.below hb hL) (Nat.le_trans hL hb.size) D hk hw)
  have hset := (setOk_iff.1 hk.1.set)
  have hb0 := hk.1.base0
  have hb1 := hk.1.base1
  have hlen := hk.1.len
  have hgl := hk.len
  have hgd := hid (hk.1.good_each (hk.codes).2.2)
  have hcb := hk.1.cbd
  obtain ⟨cs, hcs⟩ : ∃ cs, cs = k.greedy D.data.toList := ⟨_, rfl⟩
  have HU := hid (show k.uses D.data.toList = usesL k.base.toNat (k.c + 2) cs by rw [hcs]; rfl)
  rw [HU.out]
  simp only [← hcs] at HG hgl hgd
  have HOk := hid hk.1
  have eul := usesL_len k.base.toNat (k.c + 2) cs
  rw [eul]
  obtain ⟨N, hN⟩ : ∃ N, N = cs.length := ⟨_, rfl⟩
  rw [← hN] at hgl
  simp only [← hN] at HG
  obtain ⟨b0, hbb⟩ : ∃ b0 : Nat, b0 = k.base.toNat := ⟨_, rfl⟩
  have HB := hid (show k.base = (b0 : Int) by omega)
  rw [← hbb]
  obtain ⟨C, hC⟩ : ∃ C, C = pow2 k.l := ⟨_, rfl⟩
  have HC := hid (show k.c = C from hC.symm)
  have HP2 := hid (show pow2 k.l = C from hC.symm)
  have HN := hid hN
  have kN := Blk.new w 55 #[.int .i64 k.o, .int .i64 k.l, .int .i64 k.m, .slice A k.ps.length cap, .int .i64 k.base, .int .i64 k.last]
  have hcC : 2 ≤ C ∧ C ≤ 256 := by rw [← HC.out]; omega
  rw [HC.out]
  have hbs : b0 ≤ 1020 := by omega
  have hl30 : 0 ≤ k.l ∧ k.l ≤ 30 := by omega
  clear h hk hw hcs hN hbb eul hset hb0 hb1 hlen hcb hC
  obtain ⟨p0, p1, p2, p3, p4, p5⟩ := kN.cells6
  rw [HB.out] at p4
  go_enter Try.func40, Try.ntmps40
  go_wp2_with fail
  refine (HG.out _ (by (repeat (first | with_reducible (first | assumption | exact Below.refl _ _ | refine bel_alloc ?_ _ | refine bel_drew ?_ | refine bel_drewN ?_ _ | refine bel_set ?_ (by first | omega | (simp; done) | (simp; omega)) _ | refine bel_trans ?_ (by assumption)) | assumption | refine bel_trans ?_ (by assumption))))).mono ?_
  rintro e w1 ⟨A1, c1, rfl, hown1, hb1⟩
  have HC1 := hid (own_ints_at hown1)
  have HK1 := hid (kN.on hb1)
  have hB1 : Below w.heap.size w w1 := by (repeat (first | with_reducible (first | assumption | exact Below.refl _ _ | refine bel_alloc ?_ _ | refine bel_drew ?_ | refine bel_drewN ?_ _ | refine bel_set ?_ (by first | omega | (simp; done) | (simp; omega)) _ | refine bel_trans ?_ (by assumption)) | assumption | refine bel_trans ?_ (by assumption)))
  clear hown1 hb1 p0 p1 p2 p3 p4 p5 kN
  have p4 : w1.cell? ⟨w.heap.size, 4, none⟩ = some (.int .i64 (b0 : Int)) := by rw [← HB.out]; exact HK1.out.cell 4
  go_wp2_with (at_make; refine make_ints rfl _ _ 49 rfl w1.heap.size 3 Try.underlying49 Try.info_int .i64 .i64 _ _ b0 rfl rfl (by omega) (by omega) (by omega) (Nat.le_refl _) ?_; intro w2 hown2 hb2 hg2)
  have HK2 := hid (HK1.out.on hb2)
  clear p4
  go_loopw [9] (fun i wr => ∃ n : Nat, n ≤ N ∧ i = .int .i64 n ∧ wr.ownsRow w1.heap.size 3 1 (.slice (some ⟨w1.heap.size, 0, none⟩) b0 b0) b0 ((usesL b0 (C + 2) (cs.take n)).map iv) ∧ Hid (Blk wr w.heap.size 55 #[.int .i64 k.o, .int .i64 k.l, .int .i64 k.m, .slice A k.ps.length cap, .int .i64 k.base, .int .i64 k.last]) ∧ Below w1.heap.size w1 wr) (fun i _ => N - (intOf i).toNat)
  case atStart => exact ⟨0, Nat.zero_le _, rfl, by simpa [usesL] using hown2, HK2, hb2⟩
  case round =>
    obtain ⟨n, hn, rfl, hown, HK, hbl⟩ := hrel
    by_cases hlt : n < N
    · have hlt2 : n < cs.length := by have := HN.out; omega
      obtain ⟨b, off, rfl, hb, hc0⟩ := int_at (HC1.out.below hbl (Nat.le_refl _)) n hlt2
      obtain ⟨c, hcd⟩ : ∃ c, c = cs[n] := ⟨_, rfl⟩
      have hcb := hgd.out.1 n c (by rw [hcd]; exact List.getElem?_eq_getElem hlt2)
      have HSn := hid (usesL_snoc b0 (C + 2) cs n hlt2)
      rw [← hcd] at hc0 HSn
      have HBd := hid (usesL_bd b0 (C + 2) (cs.take n))
      have hUl := usesL_len b0 (C + 2) (cs.take n)
      have hTl : (cs.take n).length ≤ 4000 := by rw [List.length_take]; omega
      obtain ⟨U, hU⟩ : ∃ U, U = usesL b0 (C + 2) (cs.take n) := ⟨_, rfl⟩
      rw [← hU] at hown HSn HBd hUl
      have hc1 := hc0
      clear hcd hlt2 hU hc0
      have hS : wr.cell? ⟨w.heap.size, 0, none⟩ = some (.int .i64 k.o) ∧ wr.cell? ⟨w.heap.size, 1, none⟩ = some (.int .i64 k.l) ∧ wr.cell? ⟨w.heap.size, 2, none⟩ = some (.int .i64 k.m) ∧ wr.cell? ⟨b, off + n, none⟩ = some (.int .i64 c) ∧ True := ⟨HK.out.cell 0, HK.out.cell 1, HK.out.cell 2, hc1, trivial⟩
      go_wp2_with fail
      replace HK := hid (HK.out.on (bel_drew (Below.refl _ wr)))
      replace hown := own_on hown (bel_drew (Below.refl _ wr))
      replace hbl := bel_drew hbl
      replace hc1 := cell_to hc1 (bel_drew (Below.refl _ wr))
      refine wp_region_noPanic ?_
      refine wp_region_held_drew (S := (fun v => v.cell? ⟨w.heap.size, 0, none⟩ = some (.int .i64 k.o) ∧ v.cell? ⟨w.heap.size, 1, none⟩ = some (.int .i64 k.l) ∧ v.cell? ⟨w.heap.size, 2, none⟩ = some (.int .i64 k.m) ∧ v.cell? ⟨b, off + n, none⟩ = some (.int .i64 c) ∧ True)) (by kernel_rfl) (t4_drew hS) (fun hHeld => ?_)
      refine tk 0 ?_
      refine tk 1 ?_
      refine tk 2 ?_
      refine tk 3 ?_
      refine tk 4 ?_
      refine tk 5 ?_
      refine wpAnyH_ready (rs := [6]) (by kernel_rfl) (by simp) ?_
      refine AllReadyH.cons (o := ?or1_6) ?ir1_6 (fun K hK => ?sr1_6) AllReadyH.nil
      case ir1_6 => (simp only [List.getElem?_toArray, List.getElem?_cons_succ, List.getElem?_cons_zero]; rfl)
      (go_simp; (go_at_call 96; refine (c_l1End k.o k.l k.m _ (by omega) (by omega)).mono ?_; rintro e wQ ⟨rfl, hbQ⟩; replace HK := hid (HK.out.on hbQ); replace hown := own_on hown hbQ; replace hbl := bel_trans hbl hbQ; replace hc1 := cell_to hc1 hbQ))
      refine hK.out _ _ ?kr1_6 (fun hHeld => ?_)
      case kr1_6 => (try dsimp only); (first | with_reducible assumption | with_reducible exact ⟨HK.out.cell 0, HK.out.cell 1, HK.out.cell 2, hc1, trivial⟩ | exact t4_bel (by assumption) (by assumption) | assumption | exact t4_alloc (by assumption) _ | exact ⟨HK.out.cell 0, HK.out.cell 1, HK.out.cell 2, hc1, trivial⟩)
      clear hK K
      try simp only [Act.put, List.setIfInBounds_toArray, List.set_cons_zero, List.set_cons_succ]
      refine tk 7 ?_
      refine tk 8 ?_
      refine tk 9 ?_
      refine wpAnyH_done (by kernel_rfl) ?_ _
      refine NoPanic.normal ?_
      rw [HP2.out]
      have hcC2 := hcC
      obtain ⟨p, hp⟩ : ∃ p, p = c - (C + 2) := ⟨_, rfl⟩
      have hpp : c - (C + 2) = p := hp.symm
      have hw1 : IntKind.i64.wrap (c - (C + 1)) = c - (C + 1) := IntWalk.i64_in _ (by omega)
      have hw2 : IntKind.i64.wrap (c - (C + 1) - 1) = p := by rw [← hpp, IntWalk.i64_in _ (by omega)]; omega
      have hpb : -9999 ≤ p ∧ p ≤ 9999 := by omega
      have HPp := hid hp
      clear hp
      by_cases h1 : 0 ≤ p
      · have hd1 : decide (0 ≤ p) = true := decide_eq_true h1
        by_cases h2 : p < (b0 : Int)
        · have hd2 : decide (p < (b0 : Int)) = true := decide_eq_true h2
          obtain ⟨j, rfl⟩ : ∃ j : Nat, p = (j : Int) := ⟨p.toNat, by omega⟩
          have hj : j < U.length := by omega
          obtain ⟨u, hu⟩ : ∃ u, U[j]? = some u := ⟨U[j], List.getElem?_eq_getElem hj⟩
          have hub := HBd.out j u hu
          have HSet := hid (show bump b0 (C + 2) U c = U.set j (u + 1) by
            unfold bump
            rw [← HPp.out, if_pos ⟨by omega, h2⟩]
            simp [hu])
          rw [HSet.out] at HSn
          have q0 := own_int hown j u hu
          have f0 := hown.frozenAt j
          have hst := own_store_int hown j (u + 1)
          have p4 : wQ.cell? ⟨w.heap.size, 4, none⟩ = some (.int .i64 (b0 : Int)) := by rw [← HB.out]; exact HK.out.cell 4
          have hne : w.heap.size ≠ w1.heap.size := by have := hB1.size; have := HK1.out.lt; omega
          have HKs := hid (HK.out.far j (.int .i64 (u + 1)) hne)
          have hbs2 : Below w1.heap.size w1 (wQ.setCell ⟨w1.heap.size, j, none⟩ (.int .i64 (u + 1))) := hbl.setCell (Nat.le_refl _) _
          clear hu h1 h2
          go_wp2
          go_roundw
          case rel => exact ⟨n + 1, by omega, by go_num, by rw [HSn.out]; exact hst, HKs, hbs2⟩
          case measure => simp [intOf]; omega
        · have hd2 : decide (p < (b0 : Int)) = false := decide_eq_false h2
          have HSet := hid (show bump b0 (C + 2) U c = U by
            unfold bump
            rw [← HPp.out, if_neg (fun e => h2 e.2)])
          rw [HSet.out] at HSn
          have p4 : wQ.cell? ⟨w.heap.size, 4, none⟩ = some (.int .i64 (b0 : Int)) := by rw [← HB.out]; exact HK.out.cell 4
          clear h1 h2
          go_wp2
          go_roundw
          case rel => exact ⟨n + 1, by omega, by go_num, by rw [HSn.out]; exact hown, HK, hbl⟩
          case measure => simp [intOf]; omega
      · have hd1 : decide (0 ≤ p) = false := decide_eq_false h1
        have HSet := hid (show bump b0 (C + 2) U c = U by
          unfold bump
          rw [← HPp.out, if_neg (fun e => h1 e.1)])
        rw [HSet.out] at HSn
        clear h1
        go_wp2
        go_roundw
        case rel => exact ⟨n + 1, by omega, by go_num, by rw [HSn.out]; exact hown, HK, hbl⟩
        case measure => simp [intOf]; omega
    · have HEn := hid (show cs.take n = cs by rw [List.take_of_length_le (by have := HN.out; omega)])
      rw [HEn.out] at hown
      have hO := own_mono (B' := w.heap.size) hown hB1.size
      go_wp2
      go_ret2
      exact ⟨_, _, rfl, hO, hB1.trans (hbl.mono hB1.size)⟩
end Go.Proofs.Ytfklkepodpcdgaa
