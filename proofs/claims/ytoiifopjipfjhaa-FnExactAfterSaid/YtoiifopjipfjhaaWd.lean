/- Contracts of the words of codes in both programs. No condition but that what is known is valid. -/
import Derived.Test.YtoiifopjipfjhaaKm
import Derived.Test.YtoiifopjipfjhaaRv
namespace Go.Proofs.Ytoiifopjipfjhaa
open Go.ChangeShapes Go.WideShapes Go.ChangeAt Go.RowKit Go.Joins
set_option linter.unusedVariables false

theorem Try.info_u8w : (Try.prog.info? 5).map (fun i => (i.zero, i.size, i.bytes)) = some (some (.int .u8 0), 1, 1) := by kernel_rfl
theorem word_step (k : Kn) (h : k.Ok) (i : Nat) (p : Pr) (hp : k.ps[i]? = some p) (rl : List UInt8) (code : Int) (H : k.word code = wd k.c k.ps (k.c + 2 + i) ++ rl.reverse) : k.word code = wd k.c k.ps p.1 ++ (rl ++ [byt p.2]).reverse := by
  rw [H, word_pair _ _ h.pairs _ _ hp]; simp
theorem word_bottom (k : Kn) (cd : Int) (hc : cd < k.c + 2) (rl : List UInt8) (code : Int) (H : k.word code = wd k.c k.ps cd ++ rl.reverse) : k.word code = (rl ++ [byt cd]).reverse := by
  rw [H, word_lit _ _ _ hc]; simp
theorem own_form {w : World} {B : Nat} {e : TypeId} {v : Value} {n : Nat} {xs : List Value} {size : Nat} (h : w.ownsRow B e size v n xs) (hn : 0 < n) : ∃ g cap, v = .slice (some ⟨g, 0, none⟩) n cap ∧ B ≤ g ∧ g < w.heap.size := by
  have hlt := h.lt
  rcases h.2 with ⟨_, h0⟩ | ⟨g, cap, cur, rfl, hb, _⟩
  · omega
  · exact ⟨g, cap, rfl, (hlt g rfl).1, (hlt g rfl).2⟩
theorem run_own_str {P : Program} {w : World} {base : Nat} {e : TypeId} {n : Nat} {v : Value} {l : List UInt8} {src dst : TypeId} (hs : P.underlying src = some (.slice e)) (he : P.underlying e = some (.int .u8)) (hd : P.underlying dst = some .string)
    (hown : w.ownsRow base e 1 v n (l.map vb)) : (convert src dst v).run P w = .ok (.string (str l)) w := run_str hs he hd hown

set_option maxHeartbeats 1000000 in
theorem c_word_has (b : Nat) (k : Kn) (A : Option Addr) (cap L : Nat) (w : World) (h : k.Ok) (hk : KAt w b k (.slice A k.ps.length cap)) (hps : PsAt w L A cap k.ps) (hL : L ≤ w.heap.size) (code : Int) (hc : HasW (pow2 k.l) code k.ps.length) :
    Calls Try.prog 121 #[.pointer (some ⟨b, 0, none⟩), .int .i64 code] w fun e w' => e = .returned (.string (str (k.word code))) ∧ Below w.heap.size w w' := by
  have hp := set_bd h.set
  have hlen := h.len
  have hb := hk.1
  have HK := hid hk
  have HP := hid hps
  have HOk := hid h
  have HN := hid (fun (v : World) (hv : KAt v b k (.slice A k.ps.length cap)) => c_nextWord b k A cap v h hv)
  have HF := hid (fun (v : World) (hv : KAt v b k (.slice A k.ps.length cap)) => c_firstWord b k A cap v h hv)
  have hne : (code == k.next) = false := by
    have := next_eq k
    unfold HasW at hc
    rw [beq_eq_false_iff_ne]; omega
  have HWL := hid (word_len _ _ h.pairs _ hc)
  have HC := hid hc
  clear hk hps h hc
  go_enter Try.func121, Try.ntmps121
  go_wp2_with fail
  refine (HN.out _ HK.out).mono ?_
  rintro e w1 ⟨rfl, hb1⟩
  go_wp2_with fail
  go_loopw [1, 6] (fun i v wr => ∃ (cd : Int) (rl : List UInt8), i = .int .i64 cd ∧ Hid (HasW (pow2 k.l) cd k.ps.length) ∧ wr.ownsRow w.heap.size 5 1 v rl.length (rl.map vb) ∧ Hid (k.word code = wd k.c k.ps cd ++ rl.reverse) ∧ Below w.heap.size w wr) (fun i _ _ => (intOf i).toNat)
  case atStart => exact ⟨code, [], rfl, HC, own_nil _ _ _, hid (by simp [Kn.word]), by (repeat (first | with_reducible assumption | with_reducible exact Below.refl _ _ | with_reducible refine bel_alloc ?_ _ | with_reducible refine bel_drew ?_ | with_reducible refine bel_drewN ?_ _ | with_reducible refine bel_set ?_ (by first | omega | (simp; done) | (simp; omega)) _ | with_reducible refine bel_trans ?_ (by with_reducible assumption) | exact Below.refl _ _ | assumption | refine bel_alloc ?_ _ | refine bel_drew ?_ | refine bel_drewN ?_ _ | refine bel_set ?_ (by first | omega | (simp; done) | (simp; omega)) _ | refine bel_trans ?_ (by assumption)))⟩
  case round =>
    obtain ⟨cd, rl, rfl, HH, hown, HW, hbl⟩ := hrel
    have hk2 := HK.out.on hbl hb
    have hrl : rl.length ≤ 1021 := by
      have h1 := HWL.out
      have h2 := congrArg List.length HW.out
      simp only [List.length_append, List.length_reverse] at h2
      unfold Kn.word at h2; omega
    by_cases hlt : pow2 k.l + 2 ≤ cd
    · obtain ⟨i, hi⟩ : ∃ i : Nat, cd = pow2 k.l + 2 + i := ⟨(cd - pow2 k.l - 2).toNat, by omega⟩
      subst hi
      have hil : i < k.ps.length := by have := HH.out; unfold HasW at this; omega
      obtain ⟨d, off, rfl, hd, hd0, hd1⟩ := pair_at (HP.out.below hbl hL) i hil
      have HG := hid (List.getElem?_eq_getElem hil)
      obtain ⟨p, hp2⟩ : ∃ p, p = k.ps[i] := ⟨_, rfl⟩
      rw [← hp2] at hd0 hd1 HG
      clear hp2
      have hpk := HOk.out.pairs i p HG.out
      have HS2 := hid (word_step k HOk.out i p HG.out rl code HW.out)
      obtain ⟨x, y⟩ := p
      simp only at hd0 hd1 hpk HS2
      obtain ⟨hx, hy0, hy1⟩ := hpk
      have hy2 : y < pow2 k.l := hy1
      have HX := hid (show HasW (pow2 k.l) x k.ps.length from hx.mono (by omega))
      have hxlt : x < pow2 k.l + 2 + i ∧ 0 ≤ x := by unfold HasW at hx; unfold Kn.c at hx; omega
      have ey := IntWalk.u8_in y (by omega)
      have HY := hid (byt_nat hy0 (by omega))
      have ew : IntKind.i64.wrap (pow2 k.l + 2 + (i : Int) - (pow2 k.l + 2)) = (i : Int) := (IntWalk.i64_in _ (by omega)).trans (by omega)
      clear hx hy1
      obtain ⟨q0, q1, q2, q3, q4, q5, q6⟩ := hk2
      have HS := hid (And.intro q1 (And.intro q2 (And.intro q3 (And.intro q4 (And.intro q5 (And.intro q6 (And.intro hd0 (And.intro hd1 (Below.refl wr.heap.size wr)))))))))
      clear q1 q2 q3 q4 q5 q6 hd0 hd1
      go_wp2_with fail
      refine (HF.out _ (HK.out.on hbl hb)).mono ?_
      rintro e w2 ⟨rfl, hb2⟩
      go_wp2_with fail
      have hS := s8_bel hb2 HS.out
      have hz2 := hb2.size
      have HS2q := hid HS2
      clear HS2
      refine wp_region_noPanic ?_
      refine wp_region_held_drew (S := (fun v => v.cell? ⟨b, 0, none⟩ = some (.int .i64 k.o) ∧ v.cell? ⟨b, 1, none⟩ = some (.int .i64 k.l) ∧ v.cell? ⟨b, 2, none⟩ = some (.int .i64 k.m) ∧ v.cell? ⟨b, 3, none⟩ = some (.slice (some ⟨d, off, none⟩) k.ps.length cap) ∧ v.cell? ⟨b, 4, none⟩ = some (.int .i64 k.base) ∧ v.cell? ⟨b, 5, none⟩ = some (.int .i64 k.last) ∧ v.cell? ⟨d, off + i * 2, none⟩ = some (.int .i64 x) ∧ v.cell? ⟨d, off + i * 2 + 1, none⟩ = some (.int .i64 y) ∧ Below wr.heap.size wr v)) (by kernel_rfl) (s8_drew hS) (fun hHeld => ?_)
      refine wpAnyH_take (i := 0) (oi := ?or26_0) (v := ?vr26_0) ?ir26_0 (by kernel_rfl) (by kernel_rfl) (by kernel_rfl) (fun _ _ _ h => h) ?yr26_0 (by assumption) ?wr26_0
      case ir26_0 => (simp only [List.getElem?_toArray, List.getElem?_cons_zero]; rfl)
      case yr26_0 => exact Or.inl ⟨by rfl, by intro v hSw; (try dsimp only at hSw); go_simp; try with_reducible rfl⟩
      try simp only [Act.put, List.setIfInBounds_toArray, List.set_cons_zero, List.set_cons_succ]
      refine wpAnyH_take (i := 1) (oi := ?or26_1) (v := ?vr26_1) ?ir26_1 (by kernel_rfl) (by kernel_rfl) (by kernel_rfl) (fun _ _ _ h => h) ?yr26_1 (by assumption) ?wr26_1
      case ir26_1 => (simp only [List.getElem?_toArray, List.getElem?_cons_succ, List.getElem?_cons_zero]; rfl)
      case yr26_1 => exact Or.inl ⟨by rfl, by intro v hSw; (try dsimp only at hSw); go_simp; try with_reducible rfl⟩
      try simp only [Act.put, List.setIfInBounds_toArray, List.set_cons_zero, List.set_cons_succ]
      refine wpAnyH_take (i := 2) (oi := ?or26_2) (v := ?vr26_2) ?ir26_2 (by kernel_rfl) (by kernel_rfl) (by kernel_rfl) (fun _ _ _ h => h) ?yr26_2 (by assumption) ?wr26_2
      case ir26_2 => (simp only [List.getElem?_toArray, List.getElem?_cons_succ, List.getElem?_cons_zero]; rfl)
      case yr26_2 => exact Or.inl ⟨by rfl, by intro v hSw; (try dsimp only at hSw); go_simp; try with_reducible rfl⟩
      try simp only [Act.put, List.setIfInBounds_toArray, List.set_cons_zero, List.set_cons_succ]
      refine wpAnyH_take (i := 3) (oi := ?or26_3) (v := ?vr26_3) ?ir26_3 (by kernel_rfl) (by kernel_rfl) (by kernel_rfl) (fun _ _ _ h => h) ?yr26_3 (by assumption) ?wr26_3
      case ir26_3 => (simp only [List.getElem?_toArray, List.getElem?_cons_succ, List.getElem?_cons_zero]; rfl)
      case yr26_3 => exact Or.inl ⟨by rfl, by intro v hSw; (try dsimp only at hSw); go_simp; try with_reducible rfl⟩
      try simp only [Act.put, List.setIfInBounds_toArray, List.set_cons_zero, List.set_cons_succ]
      refine wpAnyH_take (i := 4) (oi := ?or26_4) (v := ?vr26_4) ?ir26_4 (by kernel_rfl) (by kernel_rfl) (by kernel_rfl) (fun _ _ _ h => h) ?yr26_4 (by assumption) ?wr26_4
      case ir26_4 => (simp only [List.getElem?_toArray, List.getElem?_cons_succ, List.getElem?_cons_zero]; rfl)
      case yr26_4 => exact Or.inl ⟨by rfl, by intro v hSw; (try dsimp only at hSw); go_simp; try with_reducible rfl⟩
      try simp only [Act.put, List.setIfInBounds_toArray, List.set_cons_zero, List.set_cons_succ]
      refine wpAnyH_take (i := 5) (oi := ?or26_5) (v := ?vr26_5) ?ir26_5 (by kernel_rfl) (by kernel_rfl) (by kernel_rfl) (fun _ _ _ h => h) ?yr26_5 (by assumption) ?wr26_5
      case ir26_5 => (simp only [List.getElem?_toArray, List.getElem?_cons_succ, List.getElem?_cons_zero]; rfl)
      case yr26_5 => exact Or.inl ⟨by rfl, by intro v hSw; (try dsimp only at hSw); go_simp; try with_reducible rfl⟩
      try simp only [Act.put, List.setIfInBounds_toArray, List.set_cons_zero, List.set_cons_succ]
      refine wpAnyH_ready (rs := [6, 10]) (by kernel_rfl) (by simp) ?_
      refine AllReadyH.cons (o := ?or26_6) ?ir26_6 (fun K hK => ?sr26_6) (AllReadyH.cons (o := ?or26_10) ?ir26_10 (fun K hK => ?sr26_10) AllReadyH.nil)
      case ir26_6 => (simp only [List.getElem?_toArray, List.getElem?_cons_succ, List.getElem?_cons_zero]; rfl)
      case ir26_10 => (simp only [List.getElem?_toArray, List.getElem?_cons_succ, List.getElem?_cons_zero]; rfl)
      case' sr26_6 =>
        (first | (go_simp; (first | (go_at_call 170; (refine (HF.out _ (HK.out.on (B := w.heap.size) (bel_trans hbl hHeld.2.2.2.2.2.2.2.2) hb)).mono ?_; rintro e w3 ⟨rfl, hb3⟩; have kk : Blk w3 w2.heap.size 41 #[.int .i64 0, .int .i64 0] := (Blk.new w2.drew 41 #[.int .i64 0, .int .i64 0]).on hb3; obtain ⟨z0, z1⟩ := kk.cells2; have z2 := kk.frozen 0; have z3 := kk.frozen 1; have kW : Blk ((w3.setCell ⟨w2.heap.size, 0, none⟩ (.int .i64 x)).setCell ⟨w2.heap.size, 1, none⟩ (.int .i64 y)) w2.heap.size 41 #[.int .i64 x, .int .i64 y] := (kk.set_ 0 (.int .i64 x)).set_ 1 (.int .i64 y))) | (go_at_call 170; refine (HF.out _ (HK.out.on (B := w.heap.size) (bel_trans hbl hHeld.2.2.2.2.2.2.2.2) hb)).mono ?_; rintro e w3 ⟨rfl, hb3⟩; have kW := Blk.new w3 41 #[.int .i64 x, .int .i64 y]) | skip)))
        refine hK.out _ _ ?kr26_6 (fun hHeld => ?_)
        case kr26_6 => (try dsimp only); (first | with_reducible assumption | with_reducible exact s8_bel (by (repeat (first | with_reducible assumption | with_reducible exact Below.refl _ _ | with_reducible refine bel_alloc ?_ _ | with_reducible refine bel_drew ?_ | with_reducible refine bel_drewN ?_ _ | with_reducible refine bel_set ?_ (by first | omega | (simp; done) | (simp; omega)) _ | with_reducible refine bel_trans ?_ (by with_reducible assumption) | with_reducible exact Below.refl _ _ | assumption | refine bel_alloc ?_ _ | refine bel_drew ?_ | refine bel_drewN ?_ _ | refine bel_set ?_ (by first | omega | (simp; done) | (simp; omega)) _ | refine bel_trans ?_ (by assumption)))) HS.out | exact s8_bel (by assumption) (by assumption) | assumption | exact s8_alloc (by assumption) _ | exact s8_bel (by (repeat (first | assumption | exact Below.refl _ _ | refine bel_alloc ?_ _ | refine bel_drew ?_ | refine bel_drewN ?_ _ | refine bel_set ?_ (by first | omega | (simp; done) | (simp; omega)) _ | refine bel_trans ?_ (by assumption) | exact Below.refl _ _ | assumption | refine bel_alloc ?_ _ | refine bel_drew ?_ | refine bel_drewN ?_ _ | refine bel_set ?_ (by first | omega | (simp; done) | (simp; omega)) _ | refine bel_trans ?_ (by assumption)))) HS.out)
        clear hK K
        try simp only [Act.put, List.setIfInBounds_toArray, List.set_cons_zero, List.set_cons_succ]
        refine wpAnyH_take (i := 7) (oi := ?or26b1_7) (v := ?vr26b1_7) ?ir26b1_7 (by kernel_rfl) (by kernel_rfl) (by kernel_rfl) (fun _ _ _ h => h) ?yr26b1_7 (by assumption) ?wr26b1_7
        case ir26b1_7 => (simp only [List.getElem?_toArray, List.getElem?_cons_succ, List.getElem?_cons_zero]; rfl)
        case yr26b1_7 => exact Or.inl ⟨by rfl, by intro v hSw; (try dsimp only at hSw); go_simp; try with_reducible rfl⟩
        try simp only [Act.put, List.setIfInBounds_toArray, List.set_cons_zero, List.set_cons_succ]
        refine wpAnyH_take (i := 8) (oi := ?or26b1_8) (v := ?vr26b1_8) ?ir26b1_8 (by kernel_rfl) (by kernel_rfl) (by kernel_rfl) (fun _ _ _ h => h) ?yr26b1_8 (by assumption) ?wr26b1_8
        case ir26b1_8 => (simp only [List.getElem?_toArray, List.getElem?_cons_succ, List.getElem?_cons_zero]; rfl)
        case yr26b1_8 => exact Or.inl ⟨by rfl, by intro v hSw; (try dsimp only at hSw); go_simp; try with_reducible rfl⟩
        try simp only [Act.put, List.setIfInBounds_toArray, List.set_cons_zero, List.set_cons_succ]
        refine wpAnyH_take (i := 9) (oi := ?or26b1_9) (v := ?vr26b1_9) ?ir26b1_9 (by kernel_rfl) (by kernel_rfl) (by kernel_rfl) (fun _ _ _ h => h) ?yr26b1_9 (by assumption) ?wr26b1_9
        case ir26b1_9 => (simp only [List.getElem?_toArray, List.getElem?_cons_succ, List.getElem?_cons_zero]; rfl)
        case yr26b1_9 => exact Or.inl ⟨by rfl, by intro v hSw; (try dsimp only at hSw); go_simp; try with_reducible rfl⟩
        try simp only [Act.put, List.setIfInBounds_toArray, List.set_cons_zero, List.set_cons_succ]
        refine wpAnyH_ready (rs := [10]) (by kernel_rfl) (by simp) ?_
        refine AllReadyH.cons (o := ?or26b1_10) ?ir26b1_10 (fun K hK => ?sr26b1_10) AllReadyH.nil
        case ir26b1_10 => (simp only [List.getElem?_toArray, List.getElem?_cons_succ, List.getElem?_cons_zero]; rfl)
        (first | (go_simp; (first | (go_at_call 170; (refine (HF.out _ (HK.out.on (B := w.heap.size) (bel_trans hbl hHeld.2.2.2.2.2.2.2.2) hb)).mono ?_; rintro e w3 ⟨rfl, hb3⟩; have kk : Blk w3 w2.heap.size 41 #[.int .i64 0, .int .i64 0] := (Blk.new w2.drew 41 #[.int .i64 0, .int .i64 0]).on hb3; obtain ⟨z0, z1⟩ := kk.cells2; have z2 := kk.frozen 0; have z3 := kk.frozen 1; have kW : Blk ((w3.setCell ⟨w2.heap.size, 0, none⟩ (.int .i64 x)).setCell ⟨w2.heap.size, 1, none⟩ (.int .i64 y)) w2.heap.size 41 #[.int .i64 x, .int .i64 y] := (kk.set_ 0 (.int .i64 x)).set_ 1 (.int .i64 y))) | (go_at_call 170; refine (HF.out _ (HK.out.on (B := w.heap.size) (bel_trans hbl hHeld.2.2.2.2.2.2.2.2) hb)).mono ?_; rintro e w3 ⟨rfl, hb3⟩; have kW := Blk.new w3 41 #[.int .i64 x, .int .i64 y]) | skip)))
        refine hK.out _ _ ?kr26b1_10 (fun hHeld => ?_)
        case kr26b1_10 => (try dsimp only); (first | with_reducible assumption | with_reducible exact s8_bel (by (repeat (first | with_reducible assumption | with_reducible exact Below.refl _ _ | with_reducible refine bel_alloc ?_ _ | with_reducible refine bel_drew ?_ | with_reducible refine bel_drewN ?_ _ | with_reducible refine bel_set ?_ (by first | omega | (simp; done) | (simp; omega)) _ | with_reducible refine bel_trans ?_ (by with_reducible assumption) | with_reducible exact Below.refl _ _ | assumption | refine bel_alloc ?_ _ | refine bel_drew ?_ | refine bel_drewN ?_ _ | refine bel_set ?_ (by first | omega | (simp; done) | (simp; omega)) _ | refine bel_trans ?_ (by assumption)))) HS.out | exact s8_bel (by assumption) (by assumption) | assumption | exact s8_alloc (by assumption) _ | exact s8_bel (by (repeat (first | assumption | exact Below.refl _ _ | refine bel_alloc ?_ _ | refine bel_drew ?_ | refine bel_drewN ?_ _ | refine bel_set ?_ (by first | omega | (simp; done) | (simp; omega)) _ | refine bel_trans ?_ (by assumption) | exact Below.refl _ _ | assumption | refine bel_alloc ?_ _ | refine bel_drew ?_ | refine bel_drewN ?_ _ | refine bel_set ?_ (by first | omega | (simp; done) | (simp; omega)) _ | refine bel_trans ?_ (by assumption)))) HS.out)
        clear hK K
        try simp only [Act.put, List.setIfInBounds_toArray, List.set_cons_zero, List.set_cons_succ]
        refine wpAnyH_ready (rs := [11]) (by kernel_rfl) (by simp) ?_
        refine AllReadyH.cons (o := ?or26b1_11) ?ir26b1_11 (fun K hK => ?sr26b1_11) AllReadyH.nil
        case ir26b1_11 => (simp only [List.getElem?_toArray, List.getElem?_cons_succ, List.getElem?_cons_zero]; rfl)
        (first | (go_simp; (first | (go_at_call 170; (refine (HF.out _ (HK.out.on (B := w.heap.size) (bel_trans hbl hHeld.2.2.2.2.2.2.2.2) hb)).mono ?_; rintro e w3 ⟨rfl, hb3⟩; have kk : Blk w3 w2.heap.size 41 #[.int .i64 0, .int .i64 0] := (Blk.new w2.drew 41 #[.int .i64 0, .int .i64 0]).on hb3; obtain ⟨z0, z1⟩ := kk.cells2; have z2 := kk.frozen 0; have z3 := kk.frozen 1; have kW : Blk ((w3.setCell ⟨w2.heap.size, 0, none⟩ (.int .i64 x)).setCell ⟨w2.heap.size, 1, none⟩ (.int .i64 y)) w2.heap.size 41 #[.int .i64 x, .int .i64 y] := (kk.set_ 0 (.int .i64 x)).set_ 1 (.int .i64 y))) | (go_at_call 170; refine (HF.out _ (HK.out.on (B := w.heap.size) (bel_trans hbl hHeld.2.2.2.2.2.2.2.2) hb)).mono ?_; rintro e w3 ⟨rfl, hb3⟩; have kW := Blk.new w3 41 #[.int .i64 x, .int .i64 y]) | skip)))
        refine hK.out _ _ ?kr26b1_11 (fun hHeld => ?_)
        case kr26b1_11 => (try dsimp only); (first | with_reducible assumption | with_reducible exact s8_bel (by (repeat (first | with_reducible assumption | with_reducible exact Below.refl _ _ | with_reducible refine bel_alloc ?_ _ | with_reducible refine bel_drew ?_ | with_reducible refine bel_drewN ?_ _ | with_reducible refine bel_set ?_ (by first | omega | (simp; done) | (simp; omega)) _ | with_reducible refine bel_trans ?_ (by with_reducible assumption) | with_reducible exact Below.refl _ _ | assumption | refine bel_alloc ?_ _ | refine bel_drew ?_ | refine bel_drewN ?_ _ | refine bel_set ?_ (by first | omega | (simp; done) | (simp; omega)) _ | refine bel_trans ?_ (by assumption)))) HS.out | exact s8_bel (by assumption) (by assumption) | assumption | exact s8_alloc (by assumption) _ | exact s8_bel (by (repeat (first | assumption | exact Below.refl _ _ | refine bel_alloc ?_ _ | refine bel_drew ?_ | refine bel_drewN ?_ _ | refine bel_set ?_ (by first | omega | (simp; done) | (simp; omega)) _ | refine bel_trans ?_ (by assumption) | exact Below.refl _ _ | assumption | refine bel_alloc ?_ _ | refine bel_drew ?_ | refine bel_drewN ?_ _ | refine bel_set ?_ (by first | omega | (simp; done) | (simp; omega)) _ | refine bel_trans ?_ (by assumption)))) HS.out)
        clear hK K
        try simp only [Act.put, List.setIfInBounds_toArray, List.set_cons_zero, List.set_cons_succ]
        refine wpAnyH_done (by kernel_rfl) ?_ _
        refine NoPanic.normal ?_
      case' sr26_10 =>
        (first | (go_simp; (first | (go_at_call 170; (refine (HF.out _ (HK.out.on (B := w.heap.size) (bel_trans hbl hHeld.2.2.2.2.2.2.2.2) hb)).mono ?_; rintro e w3 ⟨rfl, hb3⟩; have kk : Blk w3 w2.heap.size 41 #[.int .i64 0, .int .i64 0] := (Blk.new w2.drew 41 #[.int .i64 0, .int .i64 0]).on hb3; obtain ⟨z0, z1⟩ := kk.cells2; have z2 := kk.frozen 0; have z3 := kk.frozen 1; have kW : Blk ((w3.setCell ⟨w2.heap.size, 0, none⟩ (.int .i64 x)).setCell ⟨w2.heap.size, 1, none⟩ (.int .i64 y)) w2.heap.size 41 #[.int .i64 x, .int .i64 y] := (kk.set_ 0 (.int .i64 x)).set_ 1 (.int .i64 y))) | (go_at_call 170; refine (HF.out _ (HK.out.on (B := w.heap.size) (bel_trans hbl hHeld.2.2.2.2.2.2.2.2) hb)).mono ?_; rintro e w3 ⟨rfl, hb3⟩; have kW := Blk.new w3 41 #[.int .i64 x, .int .i64 y]) | skip)))
        refine hK.out _ _ ?kr26_10 (fun hHeld => ?_)
        case kr26_10 => (try dsimp only); (first | with_reducible assumption | with_reducible exact s8_bel (by (repeat (first | with_reducible assumption | with_reducible exact Below.refl _ _ | with_reducible refine bel_alloc ?_ _ | with_reducible refine bel_drew ?_ | with_reducible refine bel_drewN ?_ _ | with_reducible refine bel_set ?_ (by first | omega | (simp; done) | (simp; omega)) _ | with_reducible refine bel_trans ?_ (by with_reducible assumption) | with_reducible exact Below.refl _ _ | assumption | refine bel_alloc ?_ _ | refine bel_drew ?_ | refine bel_drewN ?_ _ | refine bel_set ?_ (by first | omega | (simp; done) | (simp; omega)) _ | refine bel_trans ?_ (by assumption)))) HS.out | exact s8_bel (by assumption) (by assumption) | assumption | exact s8_alloc (by assumption) _ | exact s8_bel (by (repeat (first | assumption | exact Below.refl _ _ | refine bel_alloc ?_ _ | refine bel_drew ?_ | refine bel_drewN ?_ _ | refine bel_set ?_ (by first | omega | (simp; done) | (simp; omega)) _ | refine bel_trans ?_ (by assumption) | exact Below.refl _ _ | assumption | refine bel_alloc ?_ _ | refine bel_drew ?_ | refine bel_drewN ?_ _ | refine bel_set ?_ (by first | omega | (simp; done) | (simp; omega)) _ | refine bel_trans ?_ (by assumption)))) HS.out)
        clear hK K
        try simp only [Act.put, List.setIfInBounds_toArray, List.set_cons_zero, List.set_cons_succ]
        refine wpAnyH_ready (rs := [6]) (by kernel_rfl) (by simp) ?_
        refine AllReadyH.cons (o := ?or26b2_6) ?ir26b2_6 (fun K hK => ?sr26b2_6) AllReadyH.nil
        case ir26b2_6 => (simp only [List.getElem?_toArray, List.getElem?_cons_succ, List.getElem?_cons_zero]; rfl)
        (first | (go_simp; (first | (go_at_call 170; (refine (HF.out _ (HK.out.on (B := w.heap.size) (bel_trans hbl hHeld.2.2.2.2.2.2.2.2) hb)).mono ?_; rintro e w3 ⟨rfl, hb3⟩; have kk : Blk w3 w2.heap.size 41 #[.int .i64 0, .int .i64 0] := (Blk.new w2.drew 41 #[.int .i64 0, .int .i64 0]).on hb3; obtain ⟨z0, z1⟩ := kk.cells2; have z2 := kk.frozen 0; have z3 := kk.frozen 1; have kW : Blk ((w3.setCell ⟨w2.heap.size, 0, none⟩ (.int .i64 x)).setCell ⟨w2.heap.size, 1, none⟩ (.int .i64 y)) w2.heap.size 41 #[.int .i64 x, .int .i64 y] := (kk.set_ 0 (.int .i64 x)).set_ 1 (.int .i64 y))) | (go_at_call 170; refine (HF.out _ (HK.out.on (B := w.heap.size) (bel_trans hbl hHeld.2.2.2.2.2.2.2.2) hb)).mono ?_; rintro e w3 ⟨rfl, hb3⟩; have kW := Blk.new w3 41 #[.int .i64 x, .int .i64 y]) | skip)))
        refine hK.out _ _ ?kr26b2_6 (fun hHeld => ?_)
        case kr26b2_6 => (try dsimp only); (first | with_reducible assumption | with_reducible exact s8_bel (by (repeat (first | with_reducible assumption | with_reducible exact Below.refl _ _ | with_reducible refine bel_alloc ?_ _ | with_reducible refine bel_drew ?_ | with_reducible refine bel_drewN ?_ _ | with_reducible refine bel_set ?_ (by first | omega | (simp; done) | (simp; omega)) _ | with_reducible refine bel_trans ?_ (by with_reducible assumption) | with_reducible exact Below.refl _ _ | assumption | refine bel_alloc ?_ _ | refine bel_drew ?_ | refine bel_drewN ?_ _ | refine bel_set ?_ (by first | omega | (simp; done) | (simp; omega)) _ | refine bel_trans ?_ (by assumption)))) HS.out | exact s8_bel (by assumption) (by assumption) | assumption | exact s8_alloc (by assumption) _ | exact s8_bel (by (repeat (first | assumption | exact Below.refl _ _ | refine bel_alloc ?_ _ | refine bel_drew ?_ | refine bel_drewN ?_ _ | refine bel_set ?_ (by first | omega | (simp; done) | (simp; omega)) _ | refine bel_trans ?_ (by assumption) | exact Below.refl _ _ | assumption | refine bel_alloc ?_ _ | refine bel_drew ?_ | refine bel_drewN ?_ _ | refine bel_set ?_ (by first | omega | (simp; done) | (simp; omega)) _ | refine bel_trans ?_ (by assumption)))) HS.out)
        clear hK K
        try simp only [Act.put, List.setIfInBounds_toArray, List.set_cons_zero, List.set_cons_succ]
        refine wpAnyH_take (i := 7) (oi := ?or26b2_7) (v := ?vr26b2_7) ?ir26b2_7 (by kernel_rfl) (by kernel_rfl) (by kernel_rfl) (fun _ _ _ h => h) ?yr26b2_7 (by assumption) ?wr26b2_7
        case ir26b2_7 => (simp only [List.getElem?_toArray, List.getElem?_cons_succ, List.getElem?_cons_zero]; rfl)
        case yr26b2_7 => exact Or.inl ⟨by rfl, by intro v hSw; (try dsimp only at hSw); go_simp; try with_reducible rfl⟩
        try simp only [Act.put, List.setIfInBounds_toArray, List.set_cons_zero, List.set_cons_succ]
        refine wpAnyH_take (i := 8) (oi := ?or26b2_8) (v := ?vr26b2_8) ?ir26b2_8 (by kernel_rfl) (by kernel_rfl) (by kernel_rfl) (fun _ _ _ h => h) ?yr26b2_8 (by assumption) ?wr26b2_8
        case ir26b2_8 => (simp only [List.getElem?_toArray, List.getElem?_cons_succ, List.getElem?_cons_zero]; rfl)
        case yr26b2_8 => exact Or.inl ⟨by rfl, by intro v hSw; (try dsimp only at hSw); go_simp; try with_reducible rfl⟩
        try simp only [Act.put, List.setIfInBounds_toArray, List.set_cons_zero, List.set_cons_succ]
        refine wpAnyH_take (i := 9) (oi := ?or26b2_9) (v := ?vr26b2_9) ?ir26b2_9 (by kernel_rfl) (by kernel_rfl) (by kernel_rfl) (fun _ _ _ h => h) ?yr26b2_9 (by assumption) ?wr26b2_9
        case ir26b2_9 => (simp only [List.getElem?_toArray, List.getElem?_cons_succ, List.getElem?_cons_zero]; rfl)
        case yr26b2_9 => exact Or.inl ⟨by rfl, by intro v hSw; (try dsimp only at hSw); go_simp; try with_reducible rfl⟩
        try simp only [Act.put, List.setIfInBounds_toArray, List.set_cons_zero, List.set_cons_succ]
        refine wpAnyH_ready (rs := [11]) (by kernel_rfl) (by simp) ?_
        refine AllReadyH.cons (o := ?or26b2_11) ?ir26b2_11 (fun K hK => ?sr26b2_11) AllReadyH.nil
        case ir26b2_11 => (simp only [List.getElem?_toArray, List.getElem?_cons_succ, List.getElem?_cons_zero]; rfl)
        (first | (go_simp; (first | (go_at_call 170; (refine (HF.out _ (HK.out.on (B := w.heap.size) (bel_trans hbl hHeld.2.2.2.2.2.2.2.2) hb)).mono ?_; rintro e w3 ⟨rfl, hb3⟩; have kk : Blk w3 w2.heap.size 41 #[.int .i64 0, .int .i64 0] := (Blk.new w2.drew 41 #[.int .i64 0, .int .i64 0]).on hb3; obtain ⟨z0, z1⟩ := kk.cells2; have z2 := kk.frozen 0; have z3 := kk.frozen 1; have kW : Blk ((w3.setCell ⟨w2.heap.size, 0, none⟩ (.int .i64 x)).setCell ⟨w2.heap.size, 1, none⟩ (.int .i64 y)) w2.heap.size 41 #[.int .i64 x, .int .i64 y] := (kk.set_ 0 (.int .i64 x)).set_ 1 (.int .i64 y))) | (go_at_call 170; refine (HF.out _ (HK.out.on (B := w.heap.size) (bel_trans hbl hHeld.2.2.2.2.2.2.2.2) hb)).mono ?_; rintro e w3 ⟨rfl, hb3⟩; have kW := Blk.new w3 41 #[.int .i64 x, .int .i64 y]) | skip)))
        refine hK.out _ _ ?kr26b2_11 (fun hHeld => ?_)
        case kr26b2_11 => (try dsimp only); (first | with_reducible assumption | with_reducible exact s8_bel (by (repeat (first | with_reducible assumption | with_reducible exact Below.refl _ _ | with_reducible refine bel_alloc ?_ _ | with_reducible refine bel_drew ?_ | with_reducible refine bel_drewN ?_ _ | with_reducible refine bel_set ?_ (by first | omega | (simp; done) | (simp; omega)) _ | with_reducible refine bel_trans ?_ (by with_reducible assumption) | with_reducible exact Below.refl _ _ | assumption | refine bel_alloc ?_ _ | refine bel_drew ?_ | refine bel_drewN ?_ _ | refine bel_set ?_ (by first | omega | (simp; done) | (simp; omega)) _ | refine bel_trans ?_ (by assumption)))) HS.out | exact s8_bel (by assumption) (by assumption) | assumption | exact s8_alloc (by assumption) _ | exact s8_bel (by (repeat (first | assumption | exact Below.refl _ _ | refine bel_alloc ?_ _ | refine bel_drew ?_ | refine bel_drewN ?_ _ | refine bel_set ?_ (by first | omega | (simp; done) | (simp; omega)) _ | refine bel_trans ?_ (by assumption) | exact Below.refl _ _ | assumption | refine bel_alloc ?_ _ | refine bel_drew ?_ | refine bel_drewN ?_ _ | refine bel_set ?_ (by first | omega | (simp; done) | (simp; omega)) _ | refine bel_trans ?_ (by assumption)))) HS.out)
        clear hK K
        try simp only [Act.put, List.setIfInBounds_toArray, List.set_cons_zero, List.set_cons_succ]
        refine wpAnyH_done (by kernel_rfl) ?_ _
        refine NoPanic.normal ?_
      all_goals
        have hz3 := hb3.size
        have hz4 : w2.heap.size ≤ w3.heap.size := by first | exact hz3 | (simp at hz3; omega)
        have hz5 := hbl.size
        clear hz3 HS hS hHeld
        go_wp2_with (at_builtin; go_loud (refine app_byte rfl _ _ 22 rfl w.heap.size 5 Try.underlying22 Try.info_u8w _ _ _ rfl (own_on hown (by (repeat (first | with_reducible assumption | with_reducible exact Below.refl _ _ | with_reducible refine bel_alloc ?_ _ | with_reducible refine bel_drew ?_ | with_reducible refine bel_drewN ?_ _ | with_reducible refine bel_set ?_ (by first | omega | (simp; done) | (simp; omega)) _ | with_reducible refine bel_trans ?_ (by with_reducible assumption) | exact Below.refl _ _ | assumption | refine bel_alloc ?_ _ | refine bel_drew ?_ | refine bel_drewN ?_ _ | refine bel_set ?_ (by first | omega | (simp; done) | (simp; omega)) _ | refine bel_trans ?_ (by assumption))))) (byt y) _ HY.out.symm 1 (by first | with_reducible rfl | simp [Act.eval]) (by omega) (by have := hbl.size; simp; omega) ?_; intro v9 w9 hown9 hb9 hg9; have kP := kW.grown hg9 (fun e => by have := (hown.lt _ e.symm).2; omega); obtain ⟨z4, z5⟩ := kP.cells2))
        go_roundw
        case rel => exact ⟨x, rl ++ [byt y], rfl, HX, by simpa using hown9, HS2q, Below.trans (by (repeat (first | with_reducible assumption | with_reducible exact Below.refl _ _ | with_reducible refine bel_alloc ?_ _ | with_reducible refine bel_drew ?_ | with_reducible refine bel_drewN ?_ _ | with_reducible refine bel_set ?_ (by first | omega | (simp; done) | (simp; omega)) _ | with_reducible refine bel_trans ?_ (by with_reducible assumption) | exact Below.refl _ _ | assumption | refine bel_alloc ?_ _ | refine bel_drew ?_ | refine bel_drewN ?_ _ | refine bel_set ?_ (by first | omega | (simp; done) | (simp; omega)) _ | refine bel_trans ?_ (by assumption)))) hb9⟩
        case measure => simp [intOf]; omega
    · obtain ⟨q0, q1, q2, q3, q4, q5, q6⟩ := hk2
      have hcd : 0 ≤ cd ∧ cd < pow2 k.l := by have := HH.out; unfold HasW at this; omega
      have ey := IntWalk.u8_in cd (by omega)
      have HY := hid (byt_nat hcd.1 (by omega))
      have HR := hid (word_bottom k cd (by unfold Kn.c; omega) rl code HW.out)
      go_wp2_with fail
      refine (HF.out _ (HK.out.on hbl hb)).mono ?_
      rintro e w2 ⟨rfl, hb2⟩
      have hz2 := hb2.size
      go_wp2_with (at_builtin; refine app_byte rfl _ _ 22 rfl w.heap.size 5 Try.underlying22 Try.info_u8w _ _ _ rfl (own_on hown (by (repeat (first | with_reducible assumption | with_reducible exact Below.refl _ _ | with_reducible refine bel_alloc ?_ _ | with_reducible refine bel_drew ?_ | with_reducible refine bel_drewN ?_ _ | with_reducible refine bel_set ?_ (by first | omega | (simp; done) | (simp; omega)) _ | with_reducible refine bel_trans ?_ (by with_reducible assumption) | exact Below.refl _ _ | assumption | refine bel_alloc ?_ _ | refine bel_drew ?_ | refine bel_drewN ?_ _ | refine bel_set ?_ (by first | omega | (simp; done) | (simp; omega)) _ | refine bel_trans ?_ (by assumption))))) (byt cd) _ HY.out.symm 1 rfl (by omega) (by have := hbl.size; omega) ?_; intro v9 w9 hown9 hb9 hg9)
      obtain ⟨g9, c9, hv9, hg1, hg2⟩ := own_form hown9 (by omega)
      subst hv9
      have hB9 : Below w.heap.size w w9 := Below.trans (by (repeat (first | with_reducible assumption | with_reducible exact Below.refl _ _ | with_reducible refine bel_alloc ?_ _ | with_reducible refine bel_drew ?_ | with_reducible refine bel_drewN ?_ _ | with_reducible refine bel_set ?_ (by first | omega | (simp; done) | (simp; omega)) _ | with_reducible refine bel_trans ?_ (by with_reducible assumption) | exact Below.refl _ _ | assumption | refine bel_alloc ?_ _ | refine bel_drew ?_ | refine bel_drewN ?_ _ | refine bel_set ?_ (by first | omega | (simp; done) | (simp; omega)) _ | refine bel_trans ?_ (by assumption)))) hb9
      clear hb9 hg9
      refine (c_Reverse w.heap.size _ _ _ (rl ++ [byt cd]) _ hown9 (by omega)).mono ?_
      rintro e w10 ⟨rfl, hown10, hg10⟩
      have hB10 : Below w.heap.size w9 w10 := below_of_grown hg10 (by omega) (by rintro g' e; simp at e; omega)
      rw [← HR.out] at hown10
      have hcv := run_own_str (P := Try.prog) Try.underlying22 Try.underlying5 Try.underlying9 hown10
      clear hown9 hg10
      go_wp2
      go_ret
      exact ⟨rfl, Below.trans hB9 hB10⟩
end Go.Proofs.Ytoiifopjipfjhaa
