/- The laws' marks on whatever slice is owned; rows that are apart for they were made one after the other. No condition. The contracts of l2Cleared, l2After, l2Step. No condition but that what is known is valid. Contracts of After in the specification, where it says no. No condition but that the numbers are int's. Contracts of After in the program, where it says no. No condition but that the numbers are int's. -/
import Derived.Test.YtfklkepodpcdgaaBe
import Derived.Test.YtfklkepodpcdgaaBc
import Derived.Test.YtfklkepodpcdgaaBg
import Derived.Test.YtfklkepodpcdgaaBf
namespace Go.Proofs.Ytfklkepodpcdgaa
section
open Go.ChangeShapes Go.WideShapes Go.ChangeAt Go.RowKit Go.Joins
set_option linter.unusedVariables false

theorem own_none {w : World} {B : Nat} {e : TypeId} {size n m cap : Nat} {xs : List Value} (h : w.ownsRow B e size (.slice none n cap) m xs) : n = 0 ∧ cap = 0 ∧ m = 0 := by
  rcases h.2 with ⟨e1, h0⟩ | ⟨g, cap', cur, e1, _⟩
  · simp at e1; exact ⟨e1.1, e1.2, h0⟩
  · simp at e1
theorem own_some {w : World} {B : Nat} {e : TypeId} {size n m cap : Nat} {a : Addr} {xs : List Value} (h : w.ownsRow B e size (.slice (some a) n cap) m xs) : ∃ g, a = ⟨g, 0, none⟩ := by
  rcases h.2 with ⟨e1, h0⟩ | ⟨g, cap', cur, e1, _⟩
  · simp at e1
  · simp at e1; exact ⟨g, e1.1⟩

theorem c_mkKnown_nil (o l m b t : Int) (w : World) : Calls Try.prog 45 #[.agg #[.int .i64 o, .int .i64 l, .int .i64 m, .slice none 0 0, .int .i64 b, .int .i64 t], .int .i64 1] w fun e w' => e = .returned (.int .i64 1) ∧ Below w.heap.size w w' := by
  go_enter Try.func45, Try.ntmps45
  go_wp2_with (go_at_call 102; refine (c_markPairS_nil _).mono ?_; rintro e w' ⟨rfl, rfl⟩)
  go_ret
  exact ⟨rfl, by (repeat (first | with_reducible (first | assumption | exact Below.refl _ _ | refine bel_alloc ?_ _ | refine bel_drew ?_ | refine bel_drewN ?_ _ | refine bel_set ?_ (by first | omega | (simp; done) | (simp; omega)) _ | refine bel_trans ?_ (by assumption)) | assumption | refine bel_trans ?_ (by assumption)))⟩
theorem c_mkKnown_some (k : Kn) (B G cap : Nat) (w : World) (h : w.ownsRow B 169 2 (.slice (some ⟨G, 0, none⟩) k.ps.length cap) k.ps.length (prs k.ps)) (hB : B ≤ w.heap.size) (hn : k.ps.length ≤ 1048576) : Calls Try.prog 45 #[.agg #[.int .i64 k.o, .int .i64 k.l, .int .i64 k.m, .slice (some ⟨G, 0, none⟩) k.ps.length cap, .int .i64 k.base, .int .i64 k.last], .int .i64 1] w fun e w' => e = .returned (.int .i64 (1 + 2 * k.ps.length)) ∧ w'.ownsRow B 169 2 (.slice (some ⟨G, 0, none⟩) k.ps.length cap) k.ps.length (prs (mk k.ps.length 1)) ∧ w.grownBy w' (some G) := by
  have HH := hid h
  clear h
  go_enter Try.func45, Try.ntmps45
  go_wp2_with fail
  refine (c_markPairS B G cap k.ps _ (HH.out.alloc _) hn).mono ?_
  rintro e w1 ⟨rfl, hown, hg⟩
  have hg2 := grown_trans (World.grownBy_alloc w (.cells #[.int .i64 k.o, .int .i64 k.l, .int .i64 k.m, .slice (some ⟨G, 0, none⟩) k.ps.length cap, .int .i64 k.base, .int .i64 k.last] 55) (some G)) hg
  clear hg
  go_wp2
  go_ret
  exact ⟨rfl, hown, hg2⟩

theorem c_markKnown_any (k : Kn) (B cap : Nat) (A : Option Addr) (w : World) (h : w.ownsRow B 169 2 (.slice A k.ps.length cap) k.ps.length (prs k.ps)) (hB : B ≤ w.heap.size) (hn : k.ps.length ≤ 1048576) : Calls Try.prog 45 #[.agg #[.int .i64 k.o, .int .i64 k.l, .int .i64 k.m, .slice A k.ps.length cap, .int .i64 k.base, .int .i64 k.last], .int .i64 1] w fun e w' => e = .returned (.int .i64 (1 + 2 * k.ps.length)) ∧ w'.ownsRow B 169 2 (.slice A k.ps.length cap) k.ps.length (prs (mk k.ps.length 1)) ∧ w.grownBy w' (Value.slice A k.ps.length cap).ownBlock := by
  cases A with
  | none =>
    obtain ⟨h1, h2, _⟩ := own_none h
    rw [h1, h2]
    refine (c_mkKnown_nil _ _ _ _ _ _).mono ?_
    rintro e w' ⟨rfl, hb⟩
    exact ⟨rfl, own_ps_nil _ _ _, grown_below _ hb⟩
  | some a =>
    obtain ⟨g, rfl⟩ := own_some h
    exact (c_mkKnown_some k B g cap w h hB hn).mono fun e w' h2 => ⟨h2.1, h2.2.1, h2.2.2⟩
theorem c_markIntS_nil (s : Int) (w : World) : Calls Try.prog 46 #[.slice none 0 0, .int .i64 s] w (Same (.int .i64 s) w) := by
  go_enter Try.func46, Try.ntmps46
  go_wp2_with fail
  go_loop [1, 5] (fun m i => m = .int .i64 s ∧ i = .int .i64 0) (fun _ i => 0)
  case atStart => exact ⟨rfl, rfl⟩
  case round =>
    obtain ⟨rfl, rfl⟩ := hrel
    go_wp2
    go_ret
    exact ⟨rfl, rfl⟩

theorem c_markIntS_any (l : List Int) (s : Int) (B cap : Nat) (A : Option Addr) (w : World) (h : w.ownsRow B 3 1 (.slice A l.length cap) l.length (l.map iv)) (hn : l.length ≤ 1048576) (hs : 0 ≤ s) (hs2 : s ≤ 1000000000) : Calls Try.prog 46 #[.slice A l.length cap, .int .i64 s] w fun e w' => e = .returned (.int .i64 (s + l.length)) ∧ w'.ownsRow B 3 1 (.slice A l.length cap) l.length ((mki l.length s).map iv) ∧ w.grownBy w' (Value.slice A l.length cap).ownBlock := by
  cases A with
  | none =>
    obtain ⟨h1, h2, _⟩ := own_none h
    rw [h1, h2]
    refine (c_markIntS_nil _ _).mono ?_
    rintro e w' ⟨rfl, rfl⟩
    exact ⟨ret_int (by simp), own_ints_nil _ _ _, grown_refl _ _⟩
  | some a =>
    obtain ⟨g, rfl⟩ := own_some h
    exact (c_markIntS B g cap l s w h hn hs hs2).mono fun e w' h2 => ⟨h2.1, h2.2.1, h2.2.2⟩

/-- where a row lies, at most -/
def Upto (v : Value) (S : Nat) : Prop := ∀ g, v.ownBlock = some g → g < S
theorem own_upto {w : World} {B : Nat} {e : TypeId} {size n : Nat} {v : Value} {xs : List Value} (h : w.ownsRow B e size v n xs) : Upto v w.heap.size := fun g hg => (h.lt g hg).2
/-- an older row and a younger one -/
theorem sep_old {w : World} {B S : Nat} {e : TypeId} {size n : Nat} {v v2 : Value} {xs : List Value} (hu : Upto v S) (h : w.ownsRow B e size v2 n xs) (hS : S ≤ B) : v.ownBlock = none ∨ v.ownBlock ≠ v2.ownBlock := by
  cases hv : v.ownBlock with
  | none => exact .inl rfl
  | some g =>
    refine .inr (fun e => ?_)
    have h1 := hu g hv
    have h2 := (h.lt g e.symm).1
    omega
theorem bel_grow {w W w' : World} {B : Nat} {e : TypeId} {size n : Nat} {v : Value} {xs : List Value} (hB : Below w.heap.size w W) (ho : W.ownsRow B e size v n xs) (hw : w.heap.size ≤ B) (hg : W.grownBy w' v.ownBlock) : Below w.heap.size w w' :=
  hB.trans (below_of_grown hg hB.size (fun g e => by have := (ho.lt g e).1; omega))
theorem box_apart {w w' : World} {B b : Nat} {e t : TypeId} {size n : Nat} {v : Value} {xs : List Value} {cs : Array Value} (hk : Blk w b t cs) (ho : w.ownsRow B e size v n xs) (ht : t ≠ e) (hg : w.grownBy w' v.ownBlock) : Blk w' b t cs := hk.grown hg (apart_ne (own_apart_blk ho hk ht) rfl)
theorem c_heldIntS_below (L : Nat) (A : Option Addr) (cap n : Nat) (s : Int) (w : World) (h : NumsAt w L A cap (mki n s)) (hn : n ≤ 1048576) (hs : 0 ≤ s) (hs2 : s ≤ 1000000000) : Calls Try.prog 47 #[.slice A n cap, .int .i64 s] w fun e w' => e = .returned (.int .i64 (s + n)) ∧ Below w.heap.size w w' :=
  (c_heldIntS L A cap n s w h hn hs hs2).mono fun e w' ⟨h1, h2⟩ => ⟨h1, h2 ▸ Below.refl _ _⟩
/-- the numbers are int's -/
def NumsB (l : List Int) : Prop := ∀ x ∈ l, -9223372036854775808 ≤ x ∧ x ≤ 9223372036854775807
theorem sep_turn {v v2 : Value} (h : v.ownBlock = none ∨ v.ownBlock ≠ v2.ownBlock) : v2.ownBlock = none ∨ v2.ownBlock ≠ v.ownBlock := by
  rcases h with h | h
  · cases hv : v2.ownBlock with
    | none => exact .inl rfl
    | some b => exact .inr (by rw [h]; simp)
  · exact .inr (fun e => h e.symm)
theorem nums_of {H : Type} {enc : TypeId × Value → H} {P : Program} {w : World} {base : Nat} {spare : Nat → Bool} {held : Bool} {t e : TypeId} {A : Option Addr} {n cap : Nat} {d : DataW H} {ps : List MemPlace}
    (ht : P.underlying t = some (.slice e)) (he : P.underlying e = some (.int .i64)) (hc : P.cellsOf e = 1)
    (h : DataW.Trod enc P w base spare held t (.slice A n cap) d ps) : ∃ l : List Int, n = l.length ∧ NumsAt w w.heap.size A cap l ∧ NumsB l := by
  obtain ⟨fuel, hf⟩ := h
  rcases open_ints ht he hc hf with ⟨hcs, _⟩ | ⟨a, l, c, zs, hcs, _, hl, hm, hz, _, hcell, hwz⟩
  · simp [Value.cells] at hcs
    obtain ⟨rfl, rfl, rfl⟩ := hcs
    exact ⟨[], rfl, NumsAt.nil _ _, fun x hx => by simp at hx⟩
  · simp [Value.cells] at hcs
    obtain ⟨rfl, rfl, rfl⟩ := hcs
    have hzl : n ≤ zs.length := by rw [hz]; split <;> omega
    have hlen : (zs.take n).length = n := by simp; omega
    refine ⟨zs.take n, hlen.symm, ⟨by rw [hlen]; exact hl, hm, by simp, fun hn => ?_⟩, fun x hx => wf_bounds (hwz x (List.mem_of_mem_take hx))⟩
    rw [hlen] at hn
    obtain ⟨b, off, spot⟩ := a
    have hc0 := hcell 0 (by omega)
    have hspot : spot = none := by simpa [Addr.add] using World.cell?_spot hc0
    subst hspot
    refine ⟨b, off, rfl, ?_, fun i p hi => ?_⟩
    · have := World.block_lt_of_cell? _ _ hc0
      simpa [Addr.add] using this
    · have hi2 := get_lt hi
      rw [hlen] at hi2
      have hci := hcell i (by omega)
      rw [List.getElem?_take, if_pos hi2] at hi
      rw [List.getD_eq_getElem?_getD, hi] at hci
      rw [← show ((⟨b, off, none⟩ : Addr).add i) = ⟨b, off + i, none⟩ by unfold Addr.add; split <;> simp_all]
      simpa using hci
end

section
open Go.ChangeShapes Go.WideShapes Go.ChangeAt Go.RowKit Go.Joins
set_option linter.unusedVariables false

theorem Blk.cells6t {w : World} {g : Nat} {t : TypeId} {a b c d e f : Value} (h : Blk w g t #[a, b, c, d, e, f]) : w.cell? ⟨g, 0, none⟩ = some a ∧ w.cell? ⟨g, 1, none⟩ = some b ∧ w.cell? ⟨g, 2, none⟩ = some c ∧ w.cell? ⟨g, 3, none⟩ = some d ∧ w.cell? ⟨g, 4, none⟩ = some e ∧ w.cell? ⟨g, 5, none⟩ = some f ∧ True := by
  obtain ⟨h0, h1, h2, h3, h4, h5⟩ := h.cells6
  exact ⟨h0, h1, h2, h3, h4, h5, trivial⟩

set_option maxHeartbeats 4000000 in
set_option maxRecDepth 100000 in
theorem c_l2Cleared (k : Kn) (A : Option Addr) (cap L : Nat) (w : World) (h : PsAt w L A cap k.ps) (hL : L ≤ w.heap.size) (hk : k.Ok) : Calls Try.prog 183 #[.agg #[.int .i64 k.o, .int .i64 k.l, .int .i64 k.m, .slice A k.ps.length cap, .int .i64 k.base, .int .i64 k.last]] w fun e w' => ∃ A' cap', e = .returned (.agg #[.int .i64 k.o, .int .i64 k.l, .int .i64 k.m, .slice A' k.cleared.ps.length cap', .int .i64 k.base, .int .i64 k.cleared.last]) ∧ w'.ownsRow w.heap.size 169 2 (.slice A' k.cleared.ps.length cap') k.cleared.ps.length (prs k.cleared.ps) ∧ Below w.heap.size w w' := by
  have hb0 := hk.base0
  have hb1 := hk.base1
  have hlen := hk.len
  obtain ⟨n, hn⟩ : ∃ n : Nat, k.base = n := ⟨k.base.toNat, by omega⟩
  have hpl : k.cleared.ps.length = n := by simp only [Kn.cleared, List.length_take]; omega
  have hps2 : k.cleared.ps = k.ps.take n := by simp only [Kn.cleared]; rw [hn]; rfl
  have hnl : n ≤ k.ps.length := by omega
  have hcap := h.1
  have hnc : n ≤ cap := by omega
  have hnc2 : (n : Int) ≤ (cap : Int) := by omega
  have hlt : (k.ps.take n).length = n := by rw [List.length_take]; omega
  have HH := hid (h.take n)
  have HP := hid hps2
  have hl0 : k.cleared.last = -1 := rfl
  rw [hpl, hl0, hn]
  clear h hps2 hpl hl0
  have kN0 := (Blk.new w 55 #[.int .i64 k.o, .int .i64 k.l, .int .i64 k.m, .slice A k.ps.length cap, .int .i64 (n : Int), .int .i64 k.last]).alloc (.cells #[.int .i64 0, .int .i64 0, .int .i64 0, .slice none 0 0, .int .i64 0, .int .i64 0] 55)
  have kR0 := Blk.top w (.cells #[.int .i64 k.o, .int .i64 k.l, .int .i64 k.m, .slice A k.ps.length cap, .int .i64 (n : Int), .int .i64 k.last] 55) 55 #[.int .i64 0, .int .i64 0, .int .i64 0, .slice none 0 0, .int .i64 0, .int .i64 0]
  go_enter Try.func183, Try.ntmps183
  go_wp2_with fail
  obtain ⟨W, hW⟩ : ∃ W, W = (w.alloc (.cells #[.int .i64 k.o, .int .i64 k.l, .int .i64 k.m, .slice A k.ps.length cap, .int .i64 (n : Int), .int .i64 k.last] 55)).alloc (.cells #[.int .i64 0, .int .i64 0, .int .i64 0, .slice none 0 0, .int .i64 0, .int .i64 0] 55) := ⟨_, rfl⟩
  have hBW : Below w.heap.size w W := by rw [hW]; (repeat (first | with_reducible (first | assumption | exact Below.refl _ _ | refine bel_alloc ?_ _ | refine bel_drew ?_ | refine bel_drewN ?_ _ | refine bel_set ?_ (by first | omega | (simp; done) | (simp; omega)) _ | refine bel_trans ?_ (by assumption)) | assumption | refine bel_trans ?_ (by assumption)))
  have hs : w.heap.size + 2 ≤ W.heap.size := by rw [hW]; simp
  rw [← hW] at kN0 kR0
  rw [← hW]
  clear hW
  have hNR : w.heap.size ≠ w.heap.size + 1 := by omega
  have hS := kN0.cells6t
  have HQ : PsAt (W.alloc (.cells #[] 169)).drew L A cap (k.ps.take n) := ((HH.out.on hBW hL).alloc (Nat.le_trans hL hBW.size) (.cells #[] 169)).keep (fun _ _ => rfl)
  have HO : (W.alloc (.cells #[] 169)).drew.ownsRow (w.heap.size + 2) 169 2 (.slice (some ⟨W.heap.size, 0, none⟩) 0 0) 0 (prs []) := (World.ownsRow_made W #[] 0 hs (Nat.zero_le _) rfl).drew
  have kN1 := kN0.alloc (.cells #[] 169)
  refine wp_region_noPanic ?_
  refine wp_region_held_drew (S := (fun v => v.cell? ⟨w.heap.size, 0, none⟩ = some (.int .i64 k.o) ∧ v.cell? ⟨w.heap.size, 1, none⟩ = some (.int .i64 k.l) ∧ v.cell? ⟨w.heap.size, 2, none⟩ = some (.int .i64 k.m) ∧ v.cell? ⟨w.heap.size, 3, none⟩ = some (.slice A k.ps.length cap) ∧ v.cell? ⟨w.heap.size, 4, none⟩ = some (.int .i64 (n : Int)) ∧ v.cell? ⟨w.heap.size, 5, none⟩ = some (.int .i64 k.last) ∧ True)) (by kernel_rfl) (t6_drew hS) (fun hHeld => ?_)
  refine tk 0 ?_
  refine tk 1 ?_
  refine tk 3 ?_
  refine tk 4 ?_
  refine tk 5 ?_
  refine tk 6 ?_
  refine tk 7 ?_
  refine tk 9 ?_
  refine tk 10 ?_
  refine wpAnyH_ready (rs := [2]) (by kernel_rfl) (by simp) ?_
  refine AllReadyH.cons (o := ?or1_2) ?ir1_2 (fun K hK => ?sr1_2) AllReadyH.nil
  case ir1_2 => (simp only [List.getElem?_toArray, List.getElem?_cons_succ, List.getElem?_cons_zero]; rfl)
  (first | (go_simp; (first | fail | skip)))
  refine hK.out _ _ ?kr1_2 (fun hHeld => ?_)
  case kr1_2 => (try dsimp only); (first | with_reducible assumption | with_reducible exact kN1.cells6t | with_reducible exact kN9.cells6t | with_reducible exact ((((((kN9.far _ _ hNR).far _ _ hNR).far _ _ hNR).far _ _ hNR).far _ _ hNR).far _ _ hNR).cells6t | exact t6_bel (by assumption) (by assumption) | assumption | exact t6_alloc (by assumption) _ | exact kN1.cells6t | exact kN9.cells6t | exact ((((((kN9.far _ _ hNR).far _ _ hNR).far _ _ hNR).far _ _ hNR).far _ _ hNR).far _ _ hNR).cells6t)
  clear hK K
  try simp only [Act.put, List.setIfInBounds_toArray, List.set_cons_zero, List.set_cons_succ]
  refine wpAnyH_ready (rs := [8]) (by kernel_rfl) (by simp) ?_
  refine AllReadyH.cons (o := ?or1_8) ?ir1_8 (fun K hK => ?sr1_8) AllReadyH.nil
  case ir1_8 => (simp only [List.getElem?_toArray, List.getElem?_cons_succ, List.getElem?_cons_zero]; rfl)
  (first | ((refine step_pairs (by rfl) (.tmp 5) (.tmp 10) 53 (by rfl) (w.heap.size + 2) 169 Try.underlying53 Try.info_pair _ 0 [] (by rfl) HO A cap L n (k.ps.take n) HQ hlt.symm (by rfl) (by omega) (by simp; omega) ?_; intro v9 w9 hown9 hb9 hg9; obtain ⟨A9, c9, rfl, _, hl9, hA9⟩ := own_ps hown9; have kN9 := (kN0.alloc (.cells #[] 169)).drew.below hb9 (by omega); have kR9 := (kR0.alloc (.cells #[] 169)).drew.below hb9 (by omega); obtain ⟨t0, t1, t2, t3, t4, t5⟩ := kR9.cells6; obtain ⟨v0, v1, v2, v3, v4, v5⟩ := kR9.free6)) | (go_simp; (first | fail | skip)))
  refine hK.out _ _ ?kr1_8 (fun hHeld => ?_)
  case kr1_8 => (try dsimp only); (first | with_reducible assumption | with_reducible exact kN1.cells6t | with_reducible exact kN9.cells6t | with_reducible exact ((((((kN9.far _ _ hNR).far _ _ hNR).far _ _ hNR).far _ _ hNR).far _ _ hNR).far _ _ hNR).cells6t | exact t6_bel (by assumption) (by assumption) | assumption | exact t6_alloc (by assumption) _ | exact kN1.cells6t | exact kN9.cells6t | exact ((((((kN9.far _ _ hNR).far _ _ hNR).far _ _ hNR).far _ _ hNR).far _ _ hNR).far _ _ hNR).cells6t)
  clear hK K
  try simp only [Act.put, List.setIfInBounds_toArray, List.set_cons_zero, List.set_cons_succ]
  refine tk 11 ?_
  refine wpAnyH_ready (rs := [12]) (by kernel_rfl) (by simp) ?_
  refine AllReadyH.cons (o := ?or1_12) ?ir1_12 (fun K hK => ?sr1_12) AllReadyH.nil
  case ir1_12 => (simp only [List.getElem?_toArray, List.getElem?_cons_succ, List.getElem?_cons_zero]; rfl)
  (first | (go_simp; (first | fail | skip)))
  refine hK.out _ _ ?kr1_12 (fun hHeld => ?_)
  case kr1_12 => (try dsimp only); (first | with_reducible assumption | with_reducible exact kN1.cells6t | with_reducible exact kN9.cells6t | with_reducible exact ((((((kN9.far _ _ hNR).far _ _ hNR).far _ _ hNR).far _ _ hNR).far _ _ hNR).far _ _ hNR).cells6t | exact t6_bel (by assumption) (by assumption) | assumption | exact t6_alloc (by assumption) _ | exact kN1.cells6t | exact kN9.cells6t | exact ((((((kN9.far _ _ hNR).far _ _ hNR).far _ _ hNR).far _ _ hNR).far _ _ hNR).far _ _ hNR).cells6t)
  clear hK K
  try simp only [Act.put, List.setIfInBounds_toArray, List.set_cons_zero, List.set_cons_succ]
  refine wpAnyH_done (by kernel_rfl) ?_ _
  refine NoPanic.normal ?_
  clear hS
  have hlen9 : ([] ++ List.take n k.ps).length = n := by rw [List.nil_append]; exact hlt
  have hlen8 : 0 + (List.take n k.ps).length = n := by rw [hlt]; omega
  rw [hlen9, hlen8, List.nil_append] at hown9
  have hBB : Below w.heap.size w w9 := (bel_drew (bel_alloc hBW (.cells #[] 169))).trans (hb9.mono (by omega))
  obtain ⟨j0, j1, j2, j3, j4, j5⟩ := (kR9.put6 (.int .i64 k.o) (.int .i64 k.l) (.int .i64 k.m) (.slice A9 n c9) (.int .i64 (n : Int)) (.int .i64 (-1))).cells6
  have HO9 := hid hown9
  clear hown9 kN9 kR9 kN0 kR0 kN1 HO HQ t0 t1 t2 t3 t4 t5 v0 v1 v2 v3 v4 v5
  go_wp2
  refine bodyPost_ret (v := .agg #[.int .i64 k.o, .int .i64 k.l, .int .i64 k.m, .slice A9 n c9, .int .i64 (n : Int), .int .i64 (-1)]) (by simp [results, Try.results183, go_sem, j0, j1, j2, j3, j4, j5]) rfl ⟨A9, c9, rfl, ?_, by (repeat (first | with_reducible (first | assumption | exact Below.refl _ _ | refine bel_alloc ?_ _ | refine bel_drew ?_ | refine bel_drewN ?_ _ | refine bel_set ?_ (by first | omega | (simp; done) | (simp; omega)) _ | refine bel_trans ?_ (by assumption)) | assumption | refine bel_trans ?_ (by assumption)))⟩
  rw [HP.out]
  refine own_mono (B := w.heap.size + 2) ?_ (by omega)
  repeat refine ownsRow_setCell_below ?_ (by simp) _
  exact HO9.out
end

section
open Go.ChangeShapes Go.WideShapes Go.ChangeAt Go.RowKit Go.Joins
set_option linter.unusedVariables false
end

section
open Go.ChangeShapes Go.WideShapes Go.ChangeAt Go.RowKit Go.Joins
set_option linter.unusedVariables false
end
end Go.Proofs.Ytfklkepodpcdgaa
