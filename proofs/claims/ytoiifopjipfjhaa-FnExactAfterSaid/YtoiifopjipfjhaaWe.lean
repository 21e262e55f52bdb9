/- Contracts of the words of codes that can follow, in the program. No condition but that what is known is valid. -/
import Derived.Test.YtoiifopjipfjhaaWd
namespace Go.Proofs.Ytoiifopjipfjhaa
open Go.ChangeShapes Go.WideShapes Go.ChangeAt Go.RowKit Go.Joins
set_option linter.unusedVariables false

theorem str_take (l : List UInt8) (n : Nat) (T : ByteArray) (hT : T = str l) : T.extract 0 n = str (l.take n) := by
  subst hT
  apply ByteArray.ext
  apply Array.ext'
  simp [str]
theorem c_word (b : Nat) (k : Kn) (A : Option Addr) (cap L : Nat) (w : World) (h : k.Ok) (hk : KAt w b k (.slice A k.ps.length cap)) (hps : PsAt w L A cap k.ps) (hL : L ≤ w.heap.size) (code : Int) (hc : k.Fol code) :
    Calls Try.prog 121 #[.pointer (some ⟨b, 0, none⟩), .int .i64 code] w fun e w' => e = .returned (.string (str (k.any code))) ∧ Below w.heap.size w w' := by
  rcases hc with hc | ⟨hg, rfl⟩
  · rw [Kn.any_has hc]
    exact c_word_has b k A cap L w h hk hps hL code hc
  · have hlw := h.lastW hg
    have hlen := h.len
    obtain ⟨T, hT⟩ : ∃ T, T = str (k.word k.last) := ⟨_, rfl⟩
    have hTl := word_len _ _ h.pairs _ hlw
    have hTn := word_ne _ _ h.pairs _ hlw
    have hT1 : 1 ≤ T.size := by rw [hT, str_size]; have := List.length_pos_iff.2 hTn; unfold Kn.word; omega
    have hT2 : T.size ≤ 1021 := by rw [hT, str_size]; unfold Kn.word; omega
    have HA := hid (show str (k.any k.next) = T ++ T.extract 0 1 by rw [Kn.any_next, ← str_append, str_take _ 1 T hT, hT])
    have HN := hid (fun (v : World) (hv : KAt v b k (.slice A k.ps.length cap)) => c_nextWord b k A cap v h hv)
    have HW := hid (fun (v : World) (hv : KAt v b k (.slice A k.ps.length cap)) (hb : Below w.heap.size w v) => c_word_has b k A cap L v h hv (hps.below hb hL) (Nat.le_trans hL hb.size) k.last hlw)
    rw [← hT] at HW
    have HK := hid hk
    have hb := hk.1
    clear hT hTl hTn hlw hk hps
    go_enter Try.func121, Try.ntmps121
    go_wp2_with fail
    refine (HN.out _ HK.out).mono ?_
    rintro e w1 ⟨rfl, hb1⟩
    have hk1 := HK.out.on hb1 hb
    obtain ⟨q0, q1, q2, q3, q4, q5, q6⟩ := hk1
    go_wp2_with fail
    refine (HW.out _ (HK.out.on hb1 hb) hb1).mono ?_
    rintro e w2 ⟨rfl, hb2⟩
    go_wp2
    go_ret
    exact ⟨ret_str HA.out.symm, by (repeat (first | with_reducible assumption | with_reducible exact Below.refl _ _ | with_reducible refine bel_alloc ?_ _ | with_reducible refine bel_drew ?_ | with_reducible refine bel_drewN ?_ _ | with_reducible refine bel_set ?_ (by first | omega | (simp; done) | (simp; omega)) _ | with_reducible refine bel_trans ?_ (by with_reducible assumption) | exact Below.refl _ _ | assumption | refine bel_alloc ?_ _ | refine bel_drew ?_ | refine bel_drewN ?_ _ | refine bel_set ?_ (by first | omega | (simp; done) | (simp; omega)) _ | refine bel_trans ?_ (by assumption)))⟩
end Go.Proofs.Ytoiifopjipfjhaa
