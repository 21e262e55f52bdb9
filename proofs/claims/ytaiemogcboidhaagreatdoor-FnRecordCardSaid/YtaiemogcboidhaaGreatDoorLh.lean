/- The reader of an operation's fields, and ParseOp in the program. -/
import Derived.Test.YtaiemogcboidhaaGreatDoorLg
namespace Go.Proofs.YtaiemogcboidhaaGreatDoor
open Go.ChangeShapes Go.WideShapes Go.ChangeAt Go.RowKit Go.Joins
set_option linter.unusedVariables false
set_option linter.unusedSimpArgs false

/-- a reader has these texts ahead of it -/
def RdAt (w : World) (R : Nat) (l : List ByteArray) : Prop := ∃ (A : Option Addr) (cap : Nat), Blk w R 57 #[.slice A l.length cap] ∧ l.length ≤ cap ∧ cap ≤ 1000 ∧ (l ≠ [] → ∃ (F off : Nat) (cs : Array Value), A = some ⟨F, off, none⟩ ∧ F < R ∧ Blk w F 9 cs ∧ ∀ i p, l[i]? = some p → cs[off + i]? = some (.string p))
theorem RdAt.on {w w' : World} {R : Nat} {l : List ByteArray} (h : RdAt w R l) (hb : Below w.heap.size w w') : RdAt w' R l := by
  obtain ⟨AA, cap, hk, h1, h2, h3⟩ := h
  exact ⟨AA, cap, hk.on hb, h1, h2, fun hn => by
    obtain ⟨F, off, cs, e1, e2, e3, e4⟩ := h3 hn
    exact ⟨F, off, cs, e1, e2, e3.on hb, e4⟩⟩
theorem RdAt.far {w w' : World} {R M : Nat} {l : List ByteArray} (h : RdAt w R l) (hg : w.grownBy w' (some M)) (hM : R < M) : RdAt w' R l := by
  obtain ⟨AA, cap, hk, h1, h2, h3⟩ := h
  exact ⟨AA, cap, hk.grown hg (by simp; omega), h1, h2, fun hn => by
    obtain ⟨F, off, cs, e1, e2, e3, e4⟩ := h3 hn
    exact ⟨F, off, cs, e1, e2, e3.grown hg (by simp; omega), e4⟩⟩
theorem RdAt.lt {w : World} {R : Nat} {l : List ByteArray} (h : RdAt w R l) : R < w.heap.size := by
  obtain ⟨AA, cap, hk, _⟩ := h
  exact hk.lt
theorem RdAt.alloc {w : World} {R : Nat} {l : List ByteArray} (h : RdAt w R l) (o : Obj) : RdAt (w.alloc o) R l := h.on (bel_alloc (Below.refl _ _) o)
theorem RdAt.put {w : World} {R M : Nat} {l : List ByteArray} (h : RdAt w R l) (hM : R < M) (i : Nat) (a : Value) : RdAt (w.setCell ⟨M, i, none⟩ a) R l := h.far (grown_set (grown_refl w (some M)) i a) hM

set_option maxHeartbeats 4000000 in
set_option maxRecDepth 100000 in
theorem c_text (w : World) (R : Nat) (l : List ByteArray) (h : RdAt w R l) : Calls Tryz.prog 29 #[.pointer (some ⟨R, 0, none⟩)] w fun e w' => e = .returned (.string (gx l 0)) ∧ RdAt w' R l.tail ∧ w.grownBy w' (some R) := by
  obtain ⟨AA, cap, hk, hlc, hc, hrow⟩ := h
  have y0 := hk.cell 0
  have f0 := hk.frozen 0
  have hlt := hk.lt
  cases l with
  | nil =>
    have HK := hid hk
    clear hk
    simp only [List.length_nil] at y0
    go_enter Tryz.func29, Tryz.ntmps29
    go_wp2
    go_ret
    exact ⟨rfl, ⟨AA, cap, HK.out, Nat.zero_le _, hc, fun e => absurd rfl e⟩, grown_refl w (some R)⟩
  | cons p r =>
    obtain ⟨F, off, cs, rfl, hFR, hF, hcs⟩ := hrow (by simp)
    have q0 : w.cell? ⟨F, off, none⟩ = some (.string p) := (hF.cell off).trans (hcs 0 p rfl)
    have hlt2 := hF.lt
    have HC := hid hcs
    have HK := hid hk
    have HF := hid hF
    clear hk hF hcs hrow
    simp only [List.length_cons] at y0 hlc
    have hl1 : ((r.length + 1 : Nat) : Int) ≠ 0 := by omega
    go_enter Tryz.func29, Tryz.ntmps29
    go_wp2
    · go_ret
      refine ⟨rfl, ⟨_, 0, HK.out.set_ 0 _, by omega, by omega, fun hn => absurd ?_ hn⟩, grown_set (grown_refl w (some R)) 0 _⟩
      exact List.length_eq_zero_iff.1 (by omega)
    · go_ret
      refine ⟨rfl, ⟨_, cap - 1, HK.out.set_ 0 _, by omega, by omega, fun hn => ⟨F, off + 1, cs, rfl, hFR, HF.out.set_farI _ _ (by omega), fun i q hi => ?_⟩⟩, grown_set (grown_refl w (some R)) 0 _⟩
      have := HC.out (i + 1) q hi
      rw [show off + 1 + i = off + (i + 1) from by omega]
      exact this

theorem gx_size {l : List ByteArray} {n : Nat} (h : ∀ x ∈ l, x.size ≤ n) (i : Nat) : (gx l i).size ≤ n := by
  unfold gx
  rw [List.getD_eq_getElem?_getD]
  cases e : l[i]? with
  | none => exact Nat.zero_le _
  | some y => exact h y (List.mem_of_getElem? e)
theorem gx_tail (l : List ByteArray) (i : Nat) : gx l.tail i = gx l (i + 1) := by
  cases l with
  | nil => rfl
  | cons a r => rfl

set_option maxHeartbeats 4000000 in
set_option maxRecDepth 100000 in
theorem c_number (w0 w : World) (R : Nat) (l : List ByteArray) (hb : Below w0.heap.size w0 w) (hR : w0.heap.size ≤ R) (hE : ErrAt w0) (hl : ∀ x ∈ l, x.size ≤ 1048576) (h : RdAt w R l) :
    Calls Tryz.prog 54 #[.pointer (some ⟨R, 0, none⟩)] w fun e w' => (∃ n : Int, e = .returned (.int .i64 n) ∧ (-9223372036854775808 ≤ n ∧ n ≤ 9223372036854775807) ∧ NumOf (gx l 0) n) ∧ RdAt w' R l.tail ∧ w.grownBy w' (some R) := by
  have H1 := hid (c_text w R l h)
  have hz := gx_size hl 0
  have hlt := h.lt
  go_enter Tryz.func54, Tryz.ntmps54
  go_wp2_with fail
  refine H1.out.mono ?_
  rintro e W1 ⟨rfl, hr1, hg1⟩
  have b1 : Below w0.heap.size w0 W1 := hb.trans (below_of_grown hg1 hb.size (fun g e => by cases e; exact hR))
  go_wp2_with fail
  refine (c_Atoi (gx l 0) W1 (by omega) (hE.kept b1)).mono ?_
  rintro e W2 ⟨⟨n, ev, rfl, hn, hv⟩, hb2⟩
  have HN := hid (show NumOf (gx l 0) n from fun k a0 a1 e => hv k (by rw [e, str_list]; exact atoi_decI k a0 a1))
  have HR := hid (hr1.on hb2)
  have HG := hid (grown_trans hg1 (grown_below (some R) hb2))
  clear hr1 hg1 hb2 b1 hv
  go_wp2
  go_ret
  exact ⟨⟨n, rfl, hn, HN.out⟩, HR.out, HG.out⟩

set_option maxHeartbeats 4000000 in
set_option maxRecDepth 100000 in
theorem c_rdata (w : World) (R : Nat) (l : List ByteArray) (hl : ∀ x ∈ l, x.size ≤ 1048576) (h : RdAt w R l) :
    Calls Tryz.prog 55 #[.pointer (some ⟨R, 0, none⟩)] w fun e w' => (∃ d : ByteArray, e = .returned (.string d) ∧ DatOf (gx l 0) d) ∧ RdAt w' R l.tail ∧ w.grownBy w' (some R) := by
  have H1 := hid (c_text w R l h)
  have hz := gx_size hl 0
  go_enter Tryz.func55, Tryz.ntmps55
  go_wp2_with fail
  refine H1.out.mono ?_
  rintro e W1 ⟨rfl, hr1, hg1⟩
  go_wp2_with fail
  refine (c_emptyIfDash (gx l 0) W1).mono ?_
  rintro e W9 ⟨rfl, rfl⟩
  go_wp2_with fail
  refine (c_readHex (gx l 0) W1 (by unfold maxLen; omega)).mono ?_
  rintro e W2 ⟨⟨d, b, rfl, hd⟩, hb2⟩
  have HN := hid hd
  have HR := hid (hr1.on hb2)
  have HG := hid (grown_trans hg1 (grown_below (some R) hb2))
  clear hr1 hg1 hb2 hd
  go_wp2
  go_ret
  exact ⟨⟨d, rfl, HN.out⟩, HR.out, HG.out⟩
end Go.Proofs.YtaiemogcboidhaaGreatDoor
