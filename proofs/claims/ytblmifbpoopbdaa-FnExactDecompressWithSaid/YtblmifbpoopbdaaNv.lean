/- The contracts of needsClear, and of the codes that a finder writes. No condition but that what is known is valid. -/
import Derived.Test.YtblmifbpoopbdaaNu
import Derived.Test.YtblmifbpoopbdaaGr
import Derived.Test.YtblmifbpoopbdaaBg
namespace Go.Proofs.Ytblmifbpoopbdaa
open Go.ChangeShapes Go.WideShapes Go.ChangeAt Go.RowKit Go.Joins
set_option linter.unusedVariables false

theorem c_needsClear (b : Nat) (k : Kn) (A : Option Addr) (cap : Nat) (w : World) (h : k.Ok) (hk : KAt w b k (.slice A k.ps.length cap)) : Calls Try.prog 134 #[.pointer (some ⟨b, 0, none⟩)] w fun e w' => e = .returned (.bool (decide k.need)) ∧ Below w.heap.size w w' := by
  have HF := hid (fun (v : World) (hv : KAt v b k (.slice A k.ps.length cap)) => c_full b k A cap v h hv)
  have hlen := h.len
  have HS := hid (hk.held (Below.refl _ w))
  have HK := hid hk
  have hbl := hk.1
  obtain ⟨hb, q0, q1, q2, q3, q4, q5⟩ := hk
  by_cases h1 : pow2 k.m - 1 < k.next
  · skip
    simp only [decide_eq_true h1] at HF
    by_cases h2 : k.base < k.ps.length
    · skip
      have HR := hid (show decide k.need = true from decide_eq_true ⟨h1, h2⟩)
      clear h1
      go_enter Try.func134, Try.ntmps134
      go_wp2_with fail
      have hS := HS.out
      refine wp_region_noPanic ?_
      refine wp_region_held_drew (S := (fun v => v.cell? ⟨b, 0, none⟩ = some (.int .i64 k.o) ∧ v.cell? ⟨b, 1, none⟩ = some (.int .i64 k.l) ∧ v.cell? ⟨b, 2, none⟩ = some (.int .i64 k.m) ∧ v.cell? ⟨b, 3, none⟩ = some (.slice A k.ps.length cap) ∧ v.cell? ⟨b, 4, none⟩ = some (.int .i64 k.base) ∧ v.cell? ⟨b, 5, none⟩ = some (.int .i64 k.last) ∧ Below w.heap.size w v)) (by kernel_rfl) (s6_drew hS) (fun hHeld => ?_)
      refine tk 0 ?_
      refine wpAnyH_ready (rs := [1]) (by kernel_rfl) (by simp) ?_
      refine AllReadyH.cons (o := ?or1_1) ?ir1_1 (fun K hK => ?sr1_1) AllReadyH.nil
      case ir1_1 => (simp only [List.getElem?_toArray, List.getElem?_cons_succ, List.getElem?_cons_zero]; rfl)
      (first | (go_simp; (first | (go_at_call 195; refine (HF.out _ (HK.out.on (B := w.heap.size) (by (repeat (first | with_reducible (first | assumption | exact Below.refl _ _ | refine bel_alloc ?_ _ | refine bel_drew ?_ | refine bel_drewN ?_ _ | refine bel_set ?_ (by first | omega | (simp; done) | (simp; omega)) _ | refine bel_trans ?_ (by assumption)) | assumption | refine bel_trans ?_ (by assumption)))) hbl)).mono ?_; rintro e w1 ⟨rfl, hb1⟩) | skip)))
      refine hK.out _ _ ?kr1_1 (fun hHeld => ?_)
      case kr1_1 => (try dsimp only); (first | with_reducible assumption | exact s6_bel (by assumption) (by assumption) | assumption | exact s6_alloc (by assumption) _)
      clear hK K
      try simp only [Act.put, List.setIfInBounds_toArray, List.set_cons_zero, List.set_cons_succ]
      refine tk 2 ?_
      refine tk 3 ?_
      refine tk 4 ?_
      refine tk 5 ?_
      refine tk 6 ?_
      refine tk 7 ?_
      refine tk 8 ?_
      refine tk 9 ?_
      refine tk 10 ?_
      refine tk 11 ?_
      refine tk 12 ?_
      refine tk 13 ?_
      refine tk 14 ?_
      refine wpAnyH_done (by kernel_rfl) ?_ _
      refine NoPanic.normal ?_
      all_goals
        go_wp2
        go_ret
        exact ⟨ret_bool HR.out.symm, by (repeat (first | with_reducible (first | assumption | exact Below.refl _ _ | refine bel_alloc ?_ _ | refine bel_drew ?_ | refine bel_drewN ?_ _ | refine bel_set ?_ (by first | omega | (simp; done) | (simp; omega)) _ | refine bel_trans ?_ (by assumption)) | assumption | refine bel_trans ?_ (by assumption)))⟩
    · skip
      have HR := hid (show decide k.need = false from decide_eq_false (fun e => h2 e.2))
      clear h1
      go_enter Try.func134, Try.ntmps134
      go_wp2_with fail
      have hS := HS.out
      refine wp_region_noPanic ?_
      refine wp_region_held_drew (S := (fun v => v.cell? ⟨b, 0, none⟩ = some (.int .i64 k.o) ∧ v.cell? ⟨b, 1, none⟩ = some (.int .i64 k.l) ∧ v.cell? ⟨b, 2, none⟩ = some (.int .i64 k.m) ∧ v.cell? ⟨b, 3, none⟩ = some (.slice A k.ps.length cap) ∧ v.cell? ⟨b, 4, none⟩ = some (.int .i64 k.base) ∧ v.cell? ⟨b, 5, none⟩ = some (.int .i64 k.last) ∧ Below w.heap.size w v)) (by kernel_rfl) (s6_drew hS) (fun hHeld => ?_)
      refine tk 0 ?_
      refine wpAnyH_ready (rs := [1]) (by kernel_rfl) (by simp) ?_
      refine AllReadyH.cons (o := ?or2_1) ?ir2_1 (fun K hK => ?sr2_1) AllReadyH.nil
      case ir2_1 => (simp only [List.getElem?_toArray, List.getElem?_cons_succ, List.getElem?_cons_zero]; rfl)
      (first | (go_simp; (first | (go_at_call 195; refine (HF.out _ (HK.out.on (B := w.heap.size) (by (repeat (first | with_reducible (first | assumption | exact Below.refl _ _ | refine bel_alloc ?_ _ | refine bel_drew ?_ | refine bel_drewN ?_ _ | refine bel_set ?_ (by first | omega | (simp; done) | (simp; omega)) _ | refine bel_trans ?_ (by assumption)) | assumption | refine bel_trans ?_ (by assumption)))) hbl)).mono ?_; rintro e w1 ⟨rfl, hb1⟩) | skip)))
      refine hK.out _ _ ?kr2_1 (fun hHeld => ?_)
      case kr2_1 => (try dsimp only); (first | with_reducible assumption | exact s6_bel (by assumption) (by assumption) | assumption | exact s6_alloc (by assumption) _)
      clear hK K
      try simp only [Act.put, List.setIfInBounds_toArray, List.set_cons_zero, List.set_cons_succ]
      refine tk 2 ?_
      refine tk 3 ?_
      refine tk 4 ?_
      refine tk 5 ?_
      refine tk 6 ?_
      refine tk 7 ?_
      refine tk 8 ?_
      refine tk 9 ?_
      refine tk 10 ?_
      refine tk 11 ?_
      refine tk 12 ?_
      refine tk 13 ?_
      refine tk 14 ?_
      refine wpAnyH_done (by kernel_rfl) ?_ _
      refine NoPanic.normal ?_
      all_goals
        go_wp2
        go_ret
        exact ⟨ret_bool ((decide_eq_false (by omega)).trans HR.out.symm), by (repeat (first | with_reducible (first | assumption | exact Below.refl _ _ | refine bel_alloc ?_ _ | refine bel_drew ?_ | refine bel_drewN ?_ _ | refine bel_set ?_ (by first | omega | (simp; done) | (simp; omega)) _ | refine bel_trans ?_ (by assumption)) | assumption | refine bel_trans ?_ (by assumption)))⟩
  · skip
    simp only [decide_eq_false h1] at HF
    have HR := hid (show decide k.need = false from decide_eq_false (fun e => h1 e.1))
    clear h1
    go_enter Try.func134, Try.ntmps134
    go_wp2_with fail
    have hS := HS.out
    refine wp_region_noPanic ?_
    refine wp_region_held_drew (S := (fun v => v.cell? ⟨b, 0, none⟩ = some (.int .i64 k.o) ∧ v.cell? ⟨b, 1, none⟩ = some (.int .i64 k.l) ∧ v.cell? ⟨b, 2, none⟩ = some (.int .i64 k.m) ∧ v.cell? ⟨b, 3, none⟩ = some (.slice A k.ps.length cap) ∧ v.cell? ⟨b, 4, none⟩ = some (.int .i64 k.base) ∧ v.cell? ⟨b, 5, none⟩ = some (.int .i64 k.last) ∧ Below w.heap.size w v)) (by kernel_rfl) (s6_drew hS) (fun hHeld => ?_)
    refine tk 0 ?_
    refine wpAnyH_ready (rs := [1]) (by kernel_rfl) (by simp) ?_
    refine AllReadyH.cons (o := ?or3_1) ?ir3_1 (fun K hK => ?sr3_1) AllReadyH.nil
    case ir3_1 => (simp only [List.getElem?_toArray, List.getElem?_cons_succ, List.getElem?_cons_zero]; rfl)
    (first | (go_simp; (first | (go_at_call 195; refine (HF.out _ (HK.out.on (B := w.heap.size) (by (repeat (first | with_reducible (first | assumption | exact Below.refl _ _ | refine bel_alloc ?_ _ | refine bel_drew ?_ | refine bel_drewN ?_ _ | refine bel_set ?_ (by first | omega | (simp; done) | (simp; omega)) _ | refine bel_trans ?_ (by assumption)) | assumption | refine bel_trans ?_ (by assumption)))) hbl)).mono ?_; rintro e w1 ⟨rfl, hb1⟩) | skip)))
    refine hK.out _ _ ?kr3_1 (fun hHeld => ?_)
    case kr3_1 => (try dsimp only); (first | with_reducible assumption | exact s6_bel (by assumption) (by assumption) | assumption | exact s6_alloc (by assumption) _)
    clear hK K
    try simp only [Act.put, List.setIfInBounds_toArray, List.set_cons_zero, List.set_cons_succ]
    refine tk 2 ?_
    refine tu 3 ?_
    refine tu 4 ?_
    refine tu 5 ?_
    refine tu 6 ?_
    refine tu 7 ?_
    refine tu 8 ?_
    refine tu 9 ?_
    refine tu 10 ?_
    refine tu 11 ?_
    refine tu 12 ?_
    refine tk 13 ?_
    refine tk 14 ?_
    refine wpAnyH_done (by kernel_rfl) ?_ _
    refine NoPanic.normal ?_
    all_goals
      go_wp2
      go_ret
      exact ⟨ret_bool HR.out.symm, by (repeat (first | with_reducible (first | assumption | exact Below.refl _ _ | refine bel_alloc ?_ _ | refine bel_drew ?_ | refine bel_drewN ?_ _ | refine bel_set ?_ (by first | omega | (simp; done) | (simp; omega)) _ | refine bel_trans ?_ (by assumption)) | assumption | refine bel_trans ?_ (by assumption)))⟩

/-- a finder in block fb, whatever its rows and tables are -/
def FAt (L fb : Nat) (k : Kn) (w : World) : Prop := ∃ A cap nb cap2 N Lo bm n, n ≤ k.ps.length ∧ FQ L fb k A cap nb cap2 k.ps N Lo bm n w
theorem FAt.on {L fb : Nat} {k : Kn} {w w' : World} (h : FAt L fb k w) (hb : Below w.heap.size w w') : FAt L fb k w' := by
  obtain ⟨A, cap, nb, cap2, N, Lo, bm, n, hn, hF⟩ := h
  exact ⟨A, cap, nb, cap2, N, Lo, bm, n, hn, hF.on hb⟩
theorem FAt.kat {L fb : Nat} {k : Kn} {w : World} (h : FAt L fb k w) : ∃ A cap, KAt w fb k (.slice A k.ps.length cap) := by
  obtain ⟨A, cap, nb, cap2, N, Lo, bm, n, hn, hF⟩ := h
  exact ⟨A, cap, hF.kat⟩
theorem FAt.away {L fb : Nat} {k : Kn} {w w' : World} {e : TypeId} {row : Option Nat} (h : FAt L fb k w) (hg : w.grownBy w' row) (hrow : ∀ g, row = some g → ∃ cs, w.heap[g]? = some (.cells cs e (0, 0))) (he : ¬ Fam e) : FAt L fb k w' := by
  obtain ⟨A, cap, nb, cap2, N, Lo, bm, n, hn, h⟩ := h
  have hne : ∀ {t : TypeId}, Fam t → t ≠ e := fun ht e1 => he (e1 ▸ ht)
  have key : ∀ {g : Nat} {t : TypeId} {cs : Array Value}, Blk w g t cs → Fam t → some g ≠ row := fun {g t cs} hb ht e1 => by
    obtain ⟨cs2, h3⟩ := hrow g e1.symm
    have := hb.symm.trans h3
    simp at this
    exact hne ht this.2
  have kr : ∀ {B size m : Nat} {t : TypeId} {v : Value} {xs : List Value}, w.ownsRow B t size v m xs → Fam t → w'.ownsRow B t size v m xs := fun {B size m t v xs} ho ht => ho.kept hg (by
    by_cases hv : v.ownBlock = row
    · cases hvo : v.ownBlock with
      | none => exact Or.inl rfl
      | some g =>
        obtain ⟨cs, hc⟩ := own_elem ho g hvo
        exact absurd (hvo.symm.trans hv) (key hc ht)
    · exact Or.inr hv)
  exact ⟨A, cap, nb, cap2, N, Lo, bm, n, hn, ⟨h.bx.grown hg (key h.bx (by decide)), kr h.row (by decide), kr h.nds (by decide), h.fd.away hg hrow (fun e1 => hne (t := 189) (by decide) e1.symm) (fun e1 => hne (t := 228) (by decide) e1.symm), h.lb⟩⟩

/-- the finder's follow -/
theorem c_ffollow (L fb : Nat) (k : Kn) (w : World) (hk : k.Ok) (hL : L ≤ w.heap.size) (h : FAt L fb k w) (code : Int) (hc : code = k.c ∨ k.Fol code) :
    Calls Try.prog 133 #[.pointer (some ⟨fb, 0, none⟩), .int .i64 code] w fun e w' => e = .returned (.tuple #[]) ∧ Below L w w' ∧ Calm w w' ∧ FAt L fb (k.step code) w' := by
  obtain ⟨A, cap, nb, cap2, N, Lo, bm, n, hn, hF⟩ := h
  rcases hc with rfl | hc
  · rw [Kn.step_clear]
    refine (c_ffollow_clear L fb k A cap nb cap2 N Lo bm n w hk hL hF).mono ?_
    rintro e w' ⟨rfl, h1, h2, A', cap', nb', cap2', N', Lo', n', hn', h3⟩
    exact ⟨rfl, h1, h2, A', cap', nb', cap2', N', Lo', _, n', hn', h3⟩
  · rw [Kn.step_fol hk hc]
    refine (c_ffollow_code L fb k A cap nb cap2 N Lo bm n w hk hL hn hF code hc).mono ?_
    rintro e w' ⟨rfl, h1, h2, A', cap', nb', cap2', N', Lo', n', hn', h3⟩
    exact ⟨rfl, h1, h2, A', cap', nb', cap2', N', Lo', _, n', hn', h3⟩

/-- all blocks of other types than the finder's and those of codes stay as they are -/
def Calm2 (w w' : World) : Prop := ∀ (g : Nat) (t : TypeId) (cs : Array Value), Blk w g t cs → ¬ Fam t → t ≠ 28 → t ≠ 3 → Blk w' g t cs
/-- codes in a variable of their own, and the finder, in another one -/
structure GS (L cb fx fb : Nat) (k : Kn) (cs : List Int) (A3 : Option Addr) (c3 : Nat) (w : World) : Prop where
  bx : Blk w cb 28 #[.slice A3 cs.length c3]
  row : w.ownsRow L 3 1 (.slice A3 cs.length c3) cs.length (cs.map iv)
  fx : Blk w fx 127 #[.pointer (some ⟨fb, 0, none⟩)]
  fa : FAt L fb k w
  lc : L ≤ cb
theorem GS.on {L cb fx fb : Nat} {k : Kn} {cs : List Int} {A3 : Option Addr} {c3 : Nat} {w w' : World} (h : GS L cb fx fb k cs A3 c3 w) (hb : Below w.heap.size w w') : GS L cb fx fb k cs A3 c3 w' := ⟨h.bx.on hb, own_on h.row hb, h.fx.on hb, h.fa.on hb, h.lc⟩

set_option maxHeartbeats 4000000 in
set_option maxRecDepth 100000 in
theorem c_write (L cb fx fb : Nat) (k : Kn) (cs : List Int) (A3 : Option Addr) (c3 : Nat) (w : World) (hk : k.Ok) (hL : L ≤ w.heap.size) (hl : cs.length ≤ 1000000) (h : GS L cb fx fb k cs A3 c3 w) (code : Int) (hc : code = k.c ∨ k.Fol code) :
    Calls Try.prog 132 #[.int .i64 code, .pointer (some ⟨cb, 0, none⟩), .pointer (some ⟨fx, 0, none⟩)] w fun e w' => e = .returned (.tuple #[]) ∧ Below L w w' ∧ Calm2 w w' ∧ ∃ A4 c4, GS L cb fx fb (k.step code) (cs ++ [code]) A4 c4 w' := by
  have H := hid h
  have HK := hid hk
  have HC := hid hc
  have p0 : w.cell? ⟨cb, 0, none⟩ = some (.slice A3 cs.length c3) := h.bx.cell 0
  have p1 : w.cell? ⟨fx, 0, none⟩ = some (.pointer (some ⟨fb, 0, none⟩)) := h.fx.cell 0
  have hne : cb ≠ fx := h.bx.ne_type h.fx (by decide)
  clear h hk hc
  go_enter Try.func132, Try.ntmps132
  go_wp2_with (at_builtin; go_loud (refine app_int rfl (.tmp 4) (.tmp 6) 28 rfl L 3 Try.underlying28 Try.info_int _ cs.length cs rfl H.out.row code _ rfl 1 rfl (by omega) hL ?_; intro v7 w7 hown7 hb7 hg7; obtain ⟨A7, c7, rfl⟩ := own_sl hown7; have HB7 := hid (show Blk w7 cb 28 #[.slice A3 cs.length c3] from H.out.bx.row7 H.out.row hg7 (by decide)); have HX7 := hid (show Blk w7 fx 127 #[.pointer (some ⟨fb, 0, none⟩)] from H.out.fx.row7 H.out.row hg7 (by decide)); have f7 := HB7.out.frozen 0; have q7 := HB7.out.cell 0; have x7 : w7.cell? ⟨fx, 0, none⟩ = some (.pointer (some ⟨fb, 0, none⟩)) := HX7.out.cell 0; have y7 : (w7.setCell ⟨cb, 0, none⟩ (.slice A7 (cs.length + 1) c7)).cell? ⟨fx, 0, none⟩ = some (.pointer (some ⟨fb, 0, none⟩)) := (HX7.out.far 0 _ (Ne.symm hne)).cell 0))
  have HB8 := hid (HB7.out.set_ 0 (.slice A7 (cs.length + 1) c7))
  have HX8 := hid (HX7.out.far 0 (.slice A7 (cs.length + 1) c7) (Ne.symm hne))
  have HR8 := hid (own_store_blk hown7 HB7.out (by decide) 0 (.slice A7 (cs.length + 1) c7))
  have HF8 := hid ((H.out.fa.away hg7 (fun g hg => own_elem H.out.row g hg) (by decide)).away (e := 28) (grown_set (grown_refl w7 (some cb)) 0 (.slice A7 (cs.length + 1) c7)) (fun g e => by obtain rfl := Option.some.inj e; exact ⟨_, HB7.out⟩) (by decide))
  have bW8 := hb7.setCell (p := ⟨cb, 0, none⟩) H.out.lc (.slice A7 (cs.length + 1) c7)
  have HC8 := hid (show ∀ (g : Nat) (t : TypeId) (cs' : Array Value), Blk w g t cs' → t ≠ 28 → t ≠ 3 → Blk (w7.setCell ⟨cb, 0, none⟩ (.slice A7 (cs.length + 1) c7)) g t cs' from fun g t cs' hb h1 h2 =>
    (hb.row7 H.out.row hg7 h2).far 0 _ ((hb.row7 H.out.row hg7 h2).ne_type HB7.out h1))
  refine (c_ffollow L fb k _ HK.out (Nat.le_trans hL bW8.size) HF8.out code HC.out).mono ?_
  rintro e w9 ⟨rfl, hb9, hc9, hF9⟩
  go_wp2
  go_end0
  have e1 : (cs ++ [code]).length = cs.length + 1 := by simp
  refine ⟨rfl, bW8.trans hb9, fun g t cs' hb h0 h1 h2 => hc9 g t cs' (HC8.out g t cs' hb h1 h2) h0, A7, c7, ⟨?_, ?_, hc9 _ _ _ HX8.out (by decide), hF9, H.out.lc⟩⟩
  · rw [e1]; exact hc9 _ _ _ HB8.out (by decide)
  · rw [e1]; exact own_calm HR8.out hc9 (by decide)
end Go.Proofs.Ytblmifbpoopbdaa
