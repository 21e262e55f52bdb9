/- The contracts of GreedyCodes in the program. No condition but that the numbers are int's. -/
import Derived.Test.YtblmifbpoopbdaaNv
import Derived.Test.YtblmifbpoopbdaaNw
import Derived.Test.YtblmifbpoopbdaaNo
import Derived.Test.YtblmifbpoopbdaaCw
namespace Go.Proofs.Ytblmifbpoopbdaa
open Go.ChangeShapes Go.WideShapes Go.ChangeAt Go.RowKit Go.Joins
set_option linter.unusedVariables false

theorem Fd.low {L L' : Nat} {c : Int} {Q : List Pr} {m : Nat} {N : Nat → Nat} {Lo : Nat → Option Nat} {bm n : Nat} {w : World} (h : Fd L c Q m N Lo bm n w) (hL : L' ≤ L) : Fd L' c Q m N Lo bm n w :=
  ⟨h.node, fun r hr => Nat.le_trans hL (h.ge r hr), fun r g hr hl => by
    obtain ⟨h1, h2⟩ := h.arr r g hr hl
    exact ⟨Nat.le_trans hL h1, h2⟩, h.bare, h.one, h.mp, Nat.le_trans hL h.mge⟩
theorem FQ.low {L L' fb : Nat} {k : Kn} {A : Option Addr} {cap nb cap2 : Nat} {Q : List Pr} {N : Nat → Nat} {Lo : Nat → Option Nat} {bm n : Nat} {w : World} (h : FQ L fb k A cap nb cap2 Q N Lo bm n w) (hL : L' ≤ L) : FQ L' fb k A cap nb cap2 Q N Lo bm n w :=
  ⟨h.bx, own_mono h.row hL, own_mono h.nds hL, h.fd.low hL, Nat.le_trans hL h.lb⟩
def slen : Value → Nat
  | .string S => S.size
  | _ => 0
theorem GS.t4 {L cb fx fb kb : Nat} {k kk : Kn} {cs : List Int} {A : Option Addr} {cap : Nat} {A3 : Option Addr} {c3 : Nat} {w : World} (h : GS L cb fx fb kk cs A3 c3 w) (hk : Blk w kb 27 #[.int .i64 k.o, .int .i64 k.l, .int .i64 k.m, .slice A k.ps.length cap, .int .i64 k.base, .int .i64 k.last]) : w.cell? ⟨cb, 0, none⟩ = some (.slice A3 cs.length c3) ∧ w.cell? ⟨kb, 0, none⟩ = some (.int .i64 k.o) ∧ w.cell? ⟨kb, 1, none⟩ = some (.int .i64 k.l) ∧ w.cell? ⟨kb, 2, none⟩ = some (.int .i64 k.m) ∧ True :=
  ⟨h.bx.cell 0, hk.cell 0, hk.cell 1, hk.cell 2, trivial⟩
/-- a finder's longest word, wherever the finder is -/
theorem c_flongest (L fb : Nat) (k : Kn) (D : ByteArray) (w : World) (hk : k.Ok) (h : FAt L fb k w) (h0 : 0 < D.size) (hs : D.size ≤ 1048576) (hl : ((D[0]).toNat : Int) < k.c) :
    Calls Try.prog 113 #[.pointer (some ⟨fb, 0, none⟩), .string D] w fun e w' => e = .returned (.tuple #[.int .i64 (k.code1 D.data.toList), .int .i64 (k.lng D.data.toList : Nat)]) ∧ Below w.heap.size w w' := by
  obtain ⟨A, cap, nb, cap2, N, Lo, bm, n, hn, hF⟩ := h
  exact c_longest L fb k A cap nb cap2 N Lo bm n D w hk hF h0 hs hl

theorem c_GreedyCodes_bad (k : Kn) (A : Option Addr) (cap L : Nat) (w : World) (h : PsAt w L A cap k.ps) (hL : L ≤ w.heap.size) (D : ByteArray) (hk : ¬ k.Ok) (hw : k.Wf) : Calls Try.prog 46 #[.agg #[.int .i64 k.o, .int .i64 k.l, .int .i64 k.m, .slice A k.ps.length cap, .int .i64 k.base, .int .i64 k.last], .string D] w fun e w' => e = .returned (.tuple #[.slice none 0 0, .bool false]) ∧ Below w.heap.size w w' := by
  have HV := hid (fun (v : World) (hb : Below w.heap.size w v) => c_KnownValid_no k A cap L v (h.below hb hL) (Nat.le_trans hL hb.size) hk hw)
  clear h hk hw
  go_enter Try.func46, Try.ntmps46
  go_wp2_with fail
  refine (HV.out _ (by (repeat (first | with_reducible (first | assumption | exact Below.refl _ _ | refine bel_alloc ?_ _ | refine bel_drew ?_ | refine bel_drewN ?_ _ | refine bel_set ?_ (by first | omega | (simp; done) | (simp; omega)) _ | refine bel_trans ?_ (by assumption)) | assumption | refine bel_trans ?_ (by assumption))))).mono ?_
  rintro e w1 ⟨rfl, hb1⟩
  have hc1 := bcell hb1
  go_wp2
  go_ret2
  exact ⟨rfl, by (repeat (first | with_reducible (first | assumption | exact Below.refl _ _ | refine bel_alloc ?_ _ | refine bel_drew ?_ | refine bel_drewN ?_ _ | refine bel_set ?_ (by first | omega | (simp; done) | (simp; omega)) _ | refine bel_trans ?_ (by assumption)) | assumption | refine bel_trans ?_ (by assumption)))⟩
theorem c_GreedyCodes_no (k : Kn) (A : Option Addr) (cap L : Nat) (w : World) (h : PsAt w L A cap k.ps) (hL : L ≤ w.heap.size) (D : ByteArray) (hk : k.Ok) (hs : D.size ≤ maxLen) (hf : dataFits k.o k.l k.m D = false) (hw : k.Wf) : Calls Try.prog 46 #[.agg #[.int .i64 k.o, .int .i64 k.l, .int .i64 k.m, .slice A k.ps.length cap, .int .i64 k.base, .int .i64 k.last], .string D] w fun e w' => e = .returned (.tuple #[.slice none 0 0, .bool false]) ∧ Below w.heap.size w w' := by
  have HV := hid (fun (v : World) (hb : Below w.heap.size w v) => c_KnownValid_yes k A cap L v (h.below hb hL) (Nat.le_trans hL hb.size) hk hw)
  have HD := hid (fun (v : World) => c_DataFits k.o k.l k.m D v hs)
  simp only [hf] at HD
  have kN := Blk.new w 27 #[.int .i64 k.o, .int .i64 k.l, .int .i64 k.m, .slice A k.ps.length cap, .int .i64 k.base, .int .i64 k.last]
  clear h hk hw hf
  go_enter Try.func46, Try.ntmps46
  go_wp2_with fail
  refine (HV.out _ (by (repeat (first | with_reducible (first | assumption | exact Below.refl _ _ | refine bel_alloc ?_ _ | refine bel_drew ?_ | refine bel_drewN ?_ _ | refine bel_set ?_ (by first | omega | (simp; done) | (simp; omega)) _ | refine bel_trans ?_ (by assumption)) | assumption | refine bel_trans ?_ (by assumption))))).mono ?_
  rintro e w1 ⟨rfl, hb1⟩
  have hc1 := bcell hb1
  have hz1_0 : w.heap.size < w1.heap.size := (by have := hb1.size; first | omega | (simp at this; omega))
  go_wp2_with fail
  refine (HD.out _).mono ?_
  rintro e w2 ⟨rfl, hb2⟩
  have hc2 := bcell hb2
  go_wp2
  go_ret2
  exact ⟨rfl, by (repeat (first | with_reducible (first | assumption | exact Below.refl _ _ | refine bel_alloc ?_ _ | refine bel_drew ?_ | refine bel_drewN ?_ _ | refine bel_set ?_ (by first | omega | (simp; done) | (simp; omega)) _ | refine bel_trans ?_ (by assumption)) | assumption | refine bel_trans ?_ (by assumption)))⟩

set_option maxHeartbeats 4000000 in
set_option maxRecDepth 100000 in
theorem c_GreedyCodes_yes (k : Kn) (A : Option Addr) (cap L : Nat) (w : World) (h : PsAt w L A cap k.ps) (hL : L ≤ w.heap.size) (D : ByteArray) (hk : k.Ok) (hf : dataFits k.o k.l k.m D = true) (hw : k.Wf) : Calls Try.prog 46 #[.agg #[.int .i64 k.o, .int .i64 k.l, .int .i64 k.m, .slice A k.ps.length cap, .int .i64 k.base, .int .i64 k.last], .string D] w fun e w' => ∃ A' cap', e = .returned (.tuple #[.slice A' (k.greedy D.data.toList).length cap', .bool true]) ∧ w'.ownsRow w.heap.size 3 1 (.slice A' (k.greedy D.data.toList).length cap') (k.greedy D.data.toList).length ((k.greedy D.data.toList).map iv) ∧ Below w.heap.size w w' := by
  have HV := hid (fun (v : World) (hb : Below w.heap.size w v) => c_KnownValid_yes k A cap L v (h.below hb hL) (Nat.le_trans hL hb.size) hk hw)
  have hDs := (fits_lits hf).2
  have HD := hid (fun (v : World) => c_DataFits k.o k.l k.m D v (by unfold maxLen; omega))
  have HLt := hid (show Lits k.c D.data.toList from (fits_lits hf).1)
  simp only [hf] at HD
  have HNF := hid (fun (v : World) (hb : Below w.heap.size w v) => c_newFinder k A cap L v hk (h.below hb hL) (Nat.le_trans hL hb.size))
  have hset := hk.set
  have HCl := hid (fun (v : World) => c_ClearCode_yes k.o k.l k.m v hset)
  have HEn := hid (fun (v : World) => c_EndCode_yes k.o k.l k.m v hset)
  obtain ⟨C, hC⟩ : ∃ C, C = pow2 k.l := ⟨_, rfl⟩
  have hcb : 2 ≤ k.c ∧ k.c ≤ 256 := by have := hk.cbd; omega
  have HC := hid (show k.c = C from hC.symm)
  simp only [← hC] at HCl HEn
  rw [HC.out] at hcb
  have HOk := hid hk
  have HST := hid (GI.start hk D.data.toList)
  have hmf : ∀ (fn : Fn) (first cap : Array Value) (w : World), (Instr.makeFunc fn first cap).run Try.prog w = .ok (.func fn first cap) w := fun _ _ _ _ => rfl
  have kN := Blk.new w 27 #[.int .i64 k.o, .int .i64 k.l, .int .i64 k.m, .slice A k.ps.length cap, .int .i64 k.base, .int .i64 k.last]
  have HKN := hid kN
  clear h hk hw hf hset hC
  go_enter Try.func46, Try.ntmps46
  go_wp2_with fail
  refine (HV.out _ (by (repeat (first | with_reducible (first | assumption | exact Below.refl _ _ | refine bel_alloc ?_ _ | refine bel_drew ?_ | refine bel_drewN ?_ _ | refine bel_set ?_ (by first | omega | (simp; done) | (simp; omega)) _ | refine bel_trans ?_ (by assumption)) | assumption | refine bel_trans ?_ (by assumption))))).mono ?_
  rintro e w1 ⟨rfl, hb1⟩
  have hc1 := bcell hb1
  have hz1_0 : w.heap.size < w1.heap.size := (by have := hb1.size; first | omega | (simp at this; omega))
  go_wp2_with fail
  refine (HD.out _).mono ?_
  rintro e w2 ⟨rfl, hb2⟩
  have hc2 := bcell hb2
  have hz2_0 : w.heap.size < w2.heap.size := (by have := hb2.size; first | omega | (simp at this; omega))
  go_wp2_with fail
  refine (HNF.out _ (by (repeat (first | with_reducible (first | assumption | exact Below.refl _ _ | refine bel_alloc ?_ _ | refine bel_drew ?_ | refine bel_drewN ?_ _ | refine bel_set ?_ (by first | omega | (simp; done) | (simp; omega)) _ | refine bel_trans ?_ (by assumption)) | assumption | refine bel_trans ?_ (by assumption))))).mono ?_
  rintro e w3 ⟨hb3, fb, A3, cap3, nb, cap2, N, Lo, bm, n, rfl, hn3, hF3⟩
  have B3 : Below w.heap.size w w3 := by (repeat (first | with_reducible (first | assumption | exact Below.refl _ _ | refine bel_alloc ?_ _ | refine bel_drew ?_ | refine bel_drewN ?_ _ | refine bel_set ?_ (by first | omega | (simp; done) | (simp; omega)) _ | refine bel_trans ?_ (by assumption)) | assumption | refine bel_trans ?_ (by assumption)))
  have HK3 := hid (((HKN.out.on hb1).on hb2).on hb3)
  have hz2 : w.heap.size ≤ w2.heap.size := by have := hb2.size; have := hb1.size; simp at *; omega
  have HF3 := hid (show FAt w.heap.size fb k w3 from ⟨A3, cap3, nb, cap2, N, Lo, bm, n, hn3, hF3.low hz2⟩)
  have hw5 : Below w3.heap.size w3 ((w3.alloc (.cells #[.pointer (some ⟨fb, 0, none⟩)] 127)).alloc (.cells #[.slice none 0 0] 28)) := by (repeat (first | with_reducible (first | assumption | exact Below.refl _ _ | refine bel_alloc ?_ _ | refine bel_drew ?_ | refine bel_drewN ?_ _ | refine bel_set ?_ (by first | omega | (simp; done) | (simp; omega)) _ | refine bel_trans ?_ (by assumption)) | assumption | refine bel_trans ?_ (by assumption)))
  have HG5 := hid (show GS w.heap.size (w3.heap.size + 1) w3.heap.size fb k [] none 0 ((w3.alloc (.cells #[.pointer (some ⟨fb, 0, none⟩)] 127)).alloc (.cells #[.slice none 0 0] 28)) from
    ⟨Blk.top w3 _ _ _, own_ints_nil _ _ _, (Blk.new w3 127 #[.pointer (some ⟨fb, 0, none⟩)]).alloc _, HF3.out.on hw5, by have := B3.size; omega⟩)
  have HK5 := hid (HK3.out.on hw5)
  have B5 : Below w.heap.size w ((w3.alloc (.cells #[.pointer (some ⟨fb, 0, none⟩)] 127)).alloc (.cells #[.slice none 0 0] 28)) := bel_trans B3 hw5
  clear hb1 hb2 hb3 hc1 hc2 hn3 hF3 hz2 kN HKN HNF HV HD hw5
  obtain ⟨p0, p1, p2, p3, p4, p5⟩ := HK5.out.cells6
  obtain ⟨fx, hfx⟩ : ∃ fx, fx = w3.heap.size := ⟨_, rfl⟩
  go_wp2_with fail
  refine (HCl.out _).mono ?_
  rintro e w6 ⟨rfl, hb6⟩
  have HG6 := hid (HG5.out.on hb6)
  have HK6 := hid (HK5.out.on hb6)
  have B6 := bel_trans B5 hb6
  clear hb6 p0 p1 p2 p3 p4 p5 hz1_0 hz2_0
  go_wp2_with fail
  refine (c_write w.heap.size (w3.heap.size + 1) w3.heap.size fb k [] none 0 w6 HOk.out B6.size (by simp) HG6.out C (Or.inl HC.out.symm)).mono ?_
  rintro e w7 ⟨rfl, hb7, hc7, A7, c7, hG7⟩
  have HG7 := hid hG7
  have HK7 := hid (hc7 _ _ _ HK6.out (by decide) (by decide) (by decide))
  have B7 := B6.trans hb7
  rw [← HC.out] at HG7
  obtain ⟨cb, hcb2⟩ : ∃ cb, cb = w3.heap.size + 1 := ⟨_, rfl⟩
  rw [← hcb2, ← hfx] at HG7
  rw [← hcb2, ← hfx]
  clear hG7 hb7 hc7 HG6 HG5 HK5 HK6 HK3 HF3 B3 B5 B6 hfx hcb2
  go_wp2_with fail
  go_loopw [1] (fun v wr => ∃ (s f : Nat) (S : ByteArray) (cs : List Int) (kk : Kn) (A4 : Option Addr) (c4 : Nat), v = .string S ∧ S.size = D.size - s ∧ s ≤ D.size ∧ Hid (S.data.toList = D.data.toList.drop s) ∧ Hid (GI k D.data.toList cs kk s f) ∧ Hid (GS w.heap.size cb fx fb kk cs A4 c4 wr) ∧ Hid (Blk wr w.heap.size 27 #[.int .i64 k.o, .int .i64 k.l, .int .i64 k.m, .slice A k.ps.length cap, .int .i64 k.base, .int .i64 k.last]) ∧ Below w.heap.size w wr) (fun v _ => slen v)
  case atStart => exact ⟨0, _, D, _, _, A7, c7, rfl, by omega, by omega, hid (by simp), HST, HG7, HK7, B7⟩
  case round =>
    clear HG7 HK7 B7 HST
    obtain ⟨s, f, S, cs, kk, A4, c4, rfl, hSs, hsD, HSd, HI, HG, HKw, hbel⟩ := hrel
    have hDl : D.data.toList.length = D.size := len_toList D
    by_cases h0 : S.size = 0
    · have e := empty_of h0
      subst e
      have HE := hid (HI.out.done (by omega))
      have hcl := HI.out.len HOk.out HLt.out (by omega)
      have hS := HG.out.t4 HKw.out
      go_wp2_with fail
      replace HG := hid (HG.out.on (bel_drew (Below.refl _ _)))
      replace HKw := hid (HKw.out.on (bel_drew (Below.refl _ _)))
      replace hbel := bel_drew hbel
      refine wp_region_noPanic ?_
      refine wp_region_held_drew (S := (fun v => v.cell? ⟨cb, 0, none⟩ = some (.slice A4 cs.length c4) ∧ v.cell? ⟨w.heap.size, 0, none⟩ = some (.int .i64 k.o) ∧ v.cell? ⟨w.heap.size, 1, none⟩ = some (.int .i64 k.l) ∧ v.cell? ⟨w.heap.size, 2, none⟩ = some (.int .i64 k.m) ∧ True)) (by kernel_rfl) (t4_drew hS) (fun hHeld => ?_)
      refine tk 0 ?_
      refine tk 1 ?_
      refine tk 2 ?_
      refine wpAnyH_ready (rs := [3]) (by kernel_rfl) (by simp) ?_
      refine AllReadyH.cons (o := ?or1_3) ?ir1_3 (fun K hK => ?sr1_3) AllReadyH.nil
      case ir1_3 => (simp only [List.getElem?_toArray, List.getElem?_cons_succ, List.getElem?_cons_zero]; rfl)
      (go_simp; (go_at_call 30; refine (HEn.out _).mono ?_; rintro e wQ ⟨rfl, hbQ⟩; replace HG := hid (HG.out.on hbQ); replace HKw := hid (HKw.out.on hbQ); replace hbel := bel_trans hbel hbQ; clear hbQ))
      refine hK.out _ _ ?kr1_3 (fun hHeld => ?_)
      case kr1_3 => (try dsimp only); (first | with_reducible assumption | with_reducible exact ⟨HGG.out, HKK.out.cell 0, HKK.out.cell 1, HKK.out.cell 2, trivial⟩ | with_reducible exact HG.out.t4 HKw.out | exact t4_bel (by assumption) (by assumption) | assumption | exact t4_alloc (by assumption) _ | exact ⟨HGG.out, HKK.out.cell 0, HKK.out.cell 1, HKK.out.cell 2, trivial⟩ | exact HG.out.t4 HKw.out)
      clear hK K
      try simp only [Act.put, List.setIfInBounds_toArray, List.set_cons_zero, List.set_cons_succ]
      refine wpAnyH_ready (rs := [4]) (by kernel_rfl) (by simp) ?_
      refine AllReadyH.cons (o := ?or1_4) ?ir1_4 (fun K hK => ?sr1_4) AllReadyH.nil
      case ir1_4 => (simp only [List.getElem?_toArray, List.getElem?_cons_succ, List.getElem?_cons_zero]; rfl)
      (go_simp; (skip))
      refine hK.out _ _ ?kr1_4 (fun hHeld => ?_)
      case kr1_4 => (try dsimp only); (first | with_reducible assumption | with_reducible exact ⟨HGG.out, HKK.out.cell 0, HKK.out.cell 1, HKK.out.cell 2, trivial⟩ | with_reducible exact HG.out.t4 HKw.out | exact t4_bel (by assumption) (by assumption) | assumption | exact t4_alloc (by assumption) _ | exact ⟨HGG.out, HKK.out.cell 0, HKK.out.cell 1, HKK.out.cell 2, trivial⟩ | exact HG.out.t4 HKw.out)
      clear hK K
      try simp only [Act.put, List.setIfInBounds_toArray, List.set_cons_zero, List.set_cons_succ]
      refine wpAnyH_ready (rs := [5]) (by kernel_rfl) (by simp) ?_
      refine AllReadyH.cons (o := ?or1_5) ?ir1_5 (fun K hK => ?sr1_5) AllReadyH.nil
      case ir1_5 => (simp only [List.getElem?_toArray, List.getElem?_cons_succ, List.getElem?_cons_zero]; rfl)
      ((refine step_int (by rfl) (.tmp 52) (.tmp 56) 28 (by rfl) w.heap.size 3 Try.underlying28 Try.info_int _ cs.length cs (by rfl) HG.out.row (C + 1) 1 (by rfl) (by omega) hbel.size ?_; intro v9 w9 hown9 hb9 hg9 hv9; obtain ⟨A9, c9, rfl⟩ := own_sl hown9; have HGG := hid (show w9.cell? ⟨cb, 0, none⟩ = some (.slice A4 cs.length c4) from (HG.out.bx.row7 HG.out.row hg9 (by decide)).cell 0); have HKK := hid (show Blk w9 w.heap.size 27 #[.int .i64 k.o, .int .i64 k.l, .int .i64 k.m, .slice A k.ps.length cap, .int .i64 k.base, .int .i64 k.last] from HKw.out.row7 HG.out.row hg9 (by decide))))
      refine hK.out _ _ ?kr1_5 (fun hHeld => ?_)
      case kr1_5 => (try dsimp only); (first | with_reducible assumption | with_reducible exact ⟨HGG.out, HKK.out.cell 0, HKK.out.cell 1, HKK.out.cell 2, trivial⟩ | with_reducible exact HG.out.t4 HKw.out | exact t4_bel (by assumption) (by assumption) | assumption | exact t4_alloc (by assumption) _ | exact ⟨HGG.out, HKK.out.cell 0, HKK.out.cell 1, HKK.out.cell 2, trivial⟩ | exact HG.out.t4 HKw.out)
      clear hK K
      try simp only [Act.put, List.setIfInBounds_toArray, List.set_cons_zero, List.set_cons_succ]
      refine tk 6 ?_
      refine tk 7 ?_
      refine wpAnyH_done (by kernel_rfl) ?_ _
      refine NoPanic.normal ?_
      go_wp2
      go_ret2
      have e1 : (cs ++ [C + 1]).length = cs.length + 1 := by simp
      rw [HE.out, HC.out]
      refine ⟨A9, c9, by rw [e1]; rfl, by rw [e1]; exact hown9, hbel.trans hb9⟩
    · skip
      obtain ⟨A5, cp5, hkat⟩ := HG.out.fa.kat
      have HNc := hid (c_needsClear fb kk A5 cp5 wr HI.out.ok hkat)
      have he := not_empty (D := S) (by omega)
      have pX : wr.cell? ⟨fx, 0, none⟩ = some (.pointer (some ⟨fb, 0, none⟩)) := HG.out.fx.cell 0
      clear hkat
      by_cases hn : kk.need
      · skip
        simp only [decide_eq_true hn] at HNc
        have HIc := hid (HI.out.clear (by omega) hn)
        clear hn
        go_wp2_with fail
        refine HNc.out.mono ?_
        rintro e w8 ⟨rfl, hb8⟩
        replace HG := hid (HG.out.on hb8)
        replace HKw := hid (HKw.out.on hb8)
        replace hbel := bel_trans hbel hb8
        clear hb8 pX HNc
        obtain ⟨p0, p1, p2, p3, p4, p5⟩ := HKw.out.cells6
        go_wp2_with fail
        refine (HCl.out _).mono ?_
        rintro e w9 ⟨rfl, hb9⟩
        replace HG := hid (HG.out.on hb9)
        replace HKw := hid (HKw.out.on hb9)
        replace hbel := bel_trans hbel hb9
        clear hb9 p0 p1 p2 p3 p4 p5
        go_wp2_with fail
        refine (c_write w.heap.size cb fx fb kk cs A4 c4 w9 HI.out.ok hbel.size (by have := HI.out.len HOk.out HLt.out (by omega); omega) HG.out C (Or.inl (by rw [HI.out.c]; exact HC.out.symm))).mono ?_
        rintro e wC ⟨rfl, hbC, hcC, AC, cC, hGC⟩
        have eC : kk.c = C := HI.out.c.trans HC.out
        replace HKw := hid (hcC _ _ _ HKw.out (by decide) (by decide) (by decide))
        replace hbel := hbel.trans hbC
        replace HG := hid (show GS w.heap.size cb fx fb (kk.step kk.c) (cs ++ [kk.c]) AC cC wC by rw [eC]; exact hGC)
        have HNn := hid (show ¬ (kk.step kk.c).need by rw [Kn.step_clear]; exact HI.out.ok.cleared_need)
        clear hbC hcC hGC eC
        replace HI := HIc
        clear HIc
        have hW := hid (HI.out.word HLt.out (by omega) HNn.out)
        obtain ⟨g, hg⟩ : ∃ g, g = (kk.step kk.c).lng (D.data.toList.drop s) := ⟨_, rfl⟩
        obtain ⟨x, hx⟩ : ∃ x, x = (kk.step kk.c).code1 (D.data.toList.drop s) := ⟨_, rfl⟩
        have HLo := hid (fun (v : World) (hF : FAt w.heap.size fb (kk.step kk.c) v) => c_flongest w.heap.size fb (kk.step kk.c) S v HI.out.ok hF (by omega) (by omega) (HI.out.first HLt.out (b := S[0]) (by rw [← HSd.out, List.head?_eq_getElem?, dat0 S (by omega)])))
        simp only [HSd.out, ← hg, ← hx] at HLo
        simp only [← hg, ← hx] at hW
        have HWr := hid (fun (A5 : Option Addr) (c5 : Nat) (v : World) (hLv : w.heap.size ≤ v.heap.size) (hG : GS w.heap.size cb fx fb (kk.step kk.c) (cs ++ [kk.c]) A5 c5 v) => c_write w.heap.size cb fx fb (kk.step kk.c) (cs ++ [kk.c]) A5 c5 v HI.out.ok hLv (by have := HI.out.len HOk.out HLt.out (by rw [len_toList]; exact hDs); omega) hG x (Or.inr hW.out.1))
        have hg1 : 1 ≤ g := hW.out.2.1
        have hg2 : g ≤ S.size := by have := hW.out.2.2.1; rw [len_toList] at this; omega
        have HGx := hid hg
        clear hg hx
        have pX : wC.cell? ⟨fx, 0, none⟩ = some (.pointer (some ⟨fb, 0, none⟩)) := HG.out.fx.cell 0
        go_wp2_with fail
        refine (HLo.out _ HG.out.fa).mono ?_
        rintro e wL ⟨rfl, hbL⟩
        replace HG := hid (HG.out.on hbL)
        replace HKw := hid (HKw.out.on hbL)
        replace hbel := bel_trans hbel hbL
        clear hbL pX
        go_wp2_with fail
        refine (HWr.out _ _ _ hbel.size HG.out).mono ?_
        rintro e wW ⟨rfl, hbW, hcW, A6, c6, hG6⟩
        replace HKw := hid (hcW _ _ _ HKw.out (by decide) (by decide) (by decide))
        replace hbel := hbel.trans hbW
        have HG6 := hid hG6
        obtain ⟨f', HI6⟩ : ∃ f', Hid (GI k D.data.toList (cs ++ [kk.c] ++ [x]) ((kk.step kk.c).step x) (s + g) f') := by
          obtain ⟨f', hf'⟩ := hW.out.2.2.2
          exact ⟨f', hid hf'⟩
        clear hbW hcW hG6 HLo HWr hW
        go_wp2
        go_roundw
        case rel => exact ⟨s + g, f', S.extract g S.size, cs ++ [kk.c] ++ [x], (kk.step kk.c).step x, A6, c6, (by rw [hSs]), by simp; omega, by omega, hid (by rw [cut_drop, HSd.out, List.drop_drop]), HI6, HG6, HKw, hbel⟩
        case measure => simp [slen]; omega
      · skip
        simp only [decide_eq_false hn] at HNc
        have HNn := hid hn
        clear hn
        go_wp2_with fail
        refine HNc.out.mono ?_
        rintro e w8 ⟨rfl, hb8⟩
        replace HG := hid (HG.out.on hb8)
        replace HKw := hid (HKw.out.on hb8)
        replace hbel := bel_trans hbel hb8
        clear hb8 pX HNc
        have hW := hid (HI.out.word HLt.out (by omega) HNn.out)
        obtain ⟨g, hg⟩ : ∃ g, g = (kk).lng (D.data.toList.drop s) := ⟨_, rfl⟩
        obtain ⟨x, hx⟩ : ∃ x, x = (kk).code1 (D.data.toList.drop s) := ⟨_, rfl⟩
        have HLo := hid (fun (v : World) (hF : FAt w.heap.size fb (kk) v) => c_flongest w.heap.size fb (kk) S v HI.out.ok hF (by omega) (by omega) (HI.out.first HLt.out (b := S[0]) (by rw [← HSd.out, List.head?_eq_getElem?, dat0 S (by omega)])))
        simp only [HSd.out, ← hg, ← hx] at HLo
        simp only [← hg, ← hx] at hW
        have HWr := hid (fun (A5 : Option Addr) (c5 : Nat) (v : World) (hLv : w.heap.size ≤ v.heap.size) (hG : GS w.heap.size cb fx fb (kk) (cs) A5 c5 v) => c_write w.heap.size cb fx fb (kk) (cs) A5 c5 v HI.out.ok hLv (by have := HI.out.len HOk.out HLt.out (by rw [len_toList]; exact hDs); omega) hG x (Or.inr hW.out.1))
        have hg1 : 1 ≤ g := hW.out.2.1
        have hg2 : g ≤ S.size := by have := hW.out.2.2.1; rw [len_toList] at this; omega
        have HGx := hid hg
        clear hg hx
        have pX : w8.cell? ⟨fx, 0, none⟩ = some (.pointer (some ⟨fb, 0, none⟩)) := HG.out.fx.cell 0
        go_wp2_with fail
        refine (HLo.out _ HG.out.fa).mono ?_
        rintro e wL ⟨rfl, hbL⟩
        replace HG := hid (HG.out.on hbL)
        replace HKw := hid (HKw.out.on hbL)
        replace hbel := bel_trans hbel hbL
        clear hbL pX
        go_wp2_with fail
        refine (HWr.out _ _ _ hbel.size HG.out).mono ?_
        rintro e wW ⟨rfl, hbW, hcW, A6, c6, hG6⟩
        replace HKw := hid (hcW _ _ _ HKw.out (by decide) (by decide) (by decide))
        replace hbel := hbel.trans hbW
        have HG6 := hid hG6
        obtain ⟨f', HI6⟩ : ∃ f', Hid (GI k D.data.toList (cs ++ [x]) ((kk).step x) (s + g) f') := by
          obtain ⟨f', hf'⟩ := hW.out.2.2.2
          exact ⟨f', hid hf'⟩
        clear hbW hcW hG6 HLo HWr hW
        go_wp2
        go_roundw
        case rel => exact ⟨s + g, f', S.extract g S.size, cs ++ [x], (kk).step x, A6, c6, (by rw [hSs]), by simp; omega, by omega, hid (by rw [cut_drop, HSd.out, List.drop_drop]), HI6, HG6, HKw, hbel⟩
        case measure => simp [slen]; omega
end Go.Proofs.Ytblmifbpoopbdaa
