/- The contract of takeAll, for a primed writer and one part. No condition but that the data fits. -/
import Derived.Test.YtfklkepodpcdgaaQt
namespace Go.Proofs.Ytfklkepodpcdgaa
open Go.ChangeShapes Go.WideShapes Go.ChangeAt Go.RowKit Go.Joins
set_option linter.unusedVariables false
set_option linter.unusedSimpArgs false

theorem own_keepB {w w' : World} {B : Nat} {e : TypeId} {size n : Nat} {v : Value} {xs : List Value} (h : w.ownsRow B e size v n xs) (hk : ∀ g cs, v.ownBlock = some g → Blk w g e cs → Blk w' g e cs) : w'.ownsRow B e size v n xs := by
  obtain ⟨h1, h2⟩ := h
  refine ⟨h1, ?_⟩
  rcases h2 with h2 | ⟨g, cap, cur, rfl, hb, hg, r⟩
  · exact Or.inl h2
  · exact Or.inr ⟨g, cap, cur, rfl, hb, hk g cur rfl hg, r⟩
section
variable {L wb : Nat} {T : TypeId} {xs : List Value} {pd : Nat → Prop} {fb : Nat} {v : Value} {x : Wr} {w w' : World}

/-- more blocks that the bits never lie in -/
theorem WS.more (h : WS L wb T xs pd fb v x w) (q : Nat → Prop) (hq : ∀ g, q g → g < w.heap.size ∧ v.ownBlock ≠ some g) : WS L wb T xs (fun g => pd g ∨ q g) fb v x w :=
  ⟨h.bx, h.row, h.fa, fun g hg hp => hp.elim (h.ap g hg) (fun h1 => (hq g h1).2 hg), fun g hp => hp.elim (h.pl g) (fun h1 => (hq g h1).1), h.lb⟩
theorem WS.less {q : Nat → Prop} (h : WS L wb T xs (fun g => pd g ∨ q g) fb v x w) : WS L wb T xs pd fb v x w :=
  ⟨h.bx, h.row, h.fa, fun g hg hp => h.ap g hg (Or.inl hp), fun g hp => h.pl g (Or.inl hp), h.lb⟩
theorem WCalm.less {q : Nat → Prop} (h : WCalm (fun g => pd g ∨ q g) w w') : WCalm pd w w' := fun g t cs hb h1 h2 h3 h4 => h g t cs hb h1 h2 h3 (fun e => Or.inl (h4 e))
/-- another row of bytes is written -/
theorem WS.other (h : WS L wb T xs pd fb v x w) (hT : WT T) {row : Option Nat} (hg : w.grownBy w' row) (hr : ∀ g, row = some g → (∃ cs, Blk w g 5 cs) ∧ v.ownBlock ≠ some g ∧ ¬ pd g) : WS L wb T xs pd fb v x w' ∧ WCalm pd w w' := by
  have key : ∀ {g : Nat} {t : TypeId} {cs : Array Value}, Blk w g t cs → t ≠ 5 → some g ≠ row := fun {g t cs} hb ht e => by
    obtain ⟨⟨cs2, h5⟩, _⟩ := hr g e.symm
    have := hb.symm.trans h5
    simp at this
    exact ht this.2
  refine ⟨⟨h.bx.grown hg (key h.bx hT.u8), h.row.keep fun g cs hv hh => hh.grown hg (fun e => (hr g e.symm).2.1 hv), h.fa.away hg (fun g e => (hr g e).1) (by decide), h.ap, fun g hp => Nat.lt_of_lt_of_le (h.pl g hp) hg.size, h.lb⟩, ?_⟩
  intro g t cs hb h1 h2 h3 h4
  by_cases e : some g = row
  · obtain ⟨⟨cs2, h5⟩, _, h6⟩ := hr g e.symm
    have := hb.symm.trans h5
    simp at this
    exact absurd (h4 this.2) h6
  · exact hb.grown hg e
end
def takeName : String := String.ofList (([108, 111, 111, 112, 46, 101, 120, 97, 109, 112, 108, 101, 47, 115, 111, 117, 103, 104, 116, 115, 116, 114, 101, 97, 109, 115, 47, 105, 109, 112, 108, 46, 116, 97, 107, 101] : List Nat).map Char.ofNat)
theorem meth_take (pb : Nat) (w : World) (nm : String) (h : nm = takeName) : (method 351 124 (.pointer (some ⟨pb, 0, none⟩)) nm).run Try.prog w = .ok (134, .pointer (some ⟨pb, 0, none⟩)) w := by
  subst h
  kernel_rfl

section
variable (L pb : Nat) (xs : List Value) (pd : Nat → Prop) (fb : Nat) (sv : Value) (x : Wr) (w : World)

theorem c_take_part (hx : x.Go) (hL : L ≤ w.heap.size) (D : ByteArray) (hbl : x.b.length ≤ 7) (hl : Lits x.k.c D.data.toList) (hn : x.p.length + D.size ≤ 2000) (hf : dataFits x.k.o x.k.l x.k.m (str x.p ++ D) = true) (n : Nat) (hnn : n = (x.write D.data.toList).b.length / 8 * 8) (h : WS L pb 133 xs pd fb sv x w) : Calls Try.prog 134 #[.pointer (some ⟨pb, 0, none⟩), .iface 150 (.string D)] w fun e w' => e = .returned (.tuple #[.string (packS (x.write D.data.toList).k.o (str ((x.write D.data.toList).b.take n))), .bool true]) ∧ Below L w w' ∧ WCalm pd w w' ∧ ∃ v', WS L pb 133 xs pd fb v' ((x.write D.data.toList).cut n) w' := by
  by_cases h0 : D.size = 0
  · have e := empty_of h0
    subst e
    have e2 : x.write ByteArray.empty.data.toList = x := by unfold Wr.write; rw [if_pos (show ByteArray.empty.data.toList = [] from rfl)]
    rw [e2] at hnn ⊢
    exact c_take_nil L pb _ xs pd fb sv x w (Or.inr rfl) hx hL hbl (by simpa using hf) (by omega) n hnn h
  · exact c_take_yes L pb _ xs pd fb sv x w (Or.inr rfl) hx hL D (by omega) hbl hl hn hf n hnn h

set_option maxHeartbeats 4000000 in
set_option maxRecDepth 100000 in
theorem c_takeAll_no (hx : x.Go) (hL : L ≤ w.heap.size) (s0 : Nat) (D : ByteArray) (hs : (str x.p ++ D).size ≤ maxLen) (hf : dataFits x.k.o x.k.l x.k.m (str x.p ++ D) = false) (h : WS L pb 133 xs pd fb sv x w) (hs0 : Blk w s0 9 #[.string D]) : Calls Try.prog 127 #[.iface 124 (.pointer (some ⟨pb, 0, none⟩)), .slice (some ⟨s0, 0, none⟩) 1 1] w fun e w' => e = .returned (.tuple #[.string ByteArray.empty, .bool false]) ∧ Below L w w' ∧ WCalm pd w w' ∧ WS L pb 133 xs pd fb sv x w' := by
  have HTk := hid (c_take_no L pb 133 xs pd fb sv x w (Or.inr rfl) hx hL D hs hf h)
  have p0 : w.cell? ⟨s0, 0, none⟩ = some (.string D) := hs0.cell 0
  have H := hid h
  clear h hx hs0 hs hf
  go_enter Try.func127, Try.ntmps127
  go_wp2_with fail
  go_loopw [6, 15] (fun o i wr => i = .int .i64 0 ∧ wr = w ∧ o = .slice none 0 0) (fun _ i _ => (2 - intOf i).toNat)
  case atStart => exact ⟨rfl, rfl, rfl⟩
  case round =>
    obtain ⟨rfl, rfl, rfl⟩ := hrel
    go_wp2_with fail
    rw [meth_take]
    rotate_left
    · kernel_rfl
    simp only [Result.andThen_ok]
    refine HTk.out.mono ?_
    rintro e w1 ⟨rfl, hb1, hc1, h1⟩
    go_wp2
    go_ret2
    exact ⟨rfl, hb1, hc1, h1⟩

set_option maxHeartbeats 4000000 in
set_option maxRecDepth 100000 in
theorem c_takeAll_yes (hx : x.Go) (hL : L ≤ w.heap.size) (s0 : Nat) (D : ByteArray) (hbl : x.b.length ≤ 7) (hl : Lits x.k.c D.data.toList) (hn : x.p.length + D.size ≤ 2000) (hf : dataFits x.k.o x.k.l x.k.m (str x.p ++ D) = true) (n : Nat) (hnn : n = (x.write D.data.toList).b.length / 8 * 8) (y z : Wr) (hy : y = x.write D.data.toList) (hz : z = y.cut n) (h : WS L pb 133 xs pd fb sv x w) (hs0 : Blk w s0 9 #[.string D]) : Calls Try.prog 127 #[.iface 124 (.pointer (some ⟨pb, 0, none⟩)), .slice (some ⟨s0, 0, none⟩) 1 1] w fun e w' => e = .returned (.tuple #[.string (packS x.k.o (str (y.b.take n)) ++ packS x.k.o (str z.close.b)), .bool true]) ∧ Below L w w' ∧ WCalm pd w w' ∧ ∃ v', WS L pb 133 xs pd fb v' (z.close.cut z.close.b.length) w' := by
  have HTk := hid (c_take_part L pb xs pd fb sv x w hx hL D hbl hl hn hf n hnn h)
  have hw := hx.write_ hl hbl (by rw [len_toList]; exact hn)
  rw [← hy] at hw
  simp only [← hy] at HTk
  simp only [← hz] at HTk
  rw [← hy] at hnn
  have hzg : z.Go := by rw [hz]; exact ⟨hw.1.ok, hw.1.lit, by
    show (y.b.drop n).all isBit = true
    have h1 := hw.1.bit
    rw [List.all_eq_true] at h1 ⊢
    exact fun b hb => h1 b (List.mem_of_mem_drop hb)⟩
  have hzb : z.b.length ≤ 7 := by rw [hz]; show (y.b.drop n).length ≤ 7; rw [List.length_drop]; omega
  have hzp : z.p.length ≤ 2500 := by rw [hz]; exact hw.2.2.2.2.2.2.2
  have hzo : z.close.k.o = x.k.o := by rw [hzg.close_.2.2.2.2.2.1, hz]; exact hw.2.2.2.1
  have hyo : y.k.o = x.k.o := hw.2.2.2.1
  have HCl := hid (fun (q : Nat → Prop) (v2 : Value) (u : World) (hu : L ≤ u.heap.size) (h2 : WS L pb 133 xs q fb v2 z u) => c_take_close L pb 133 xs q fb v2 z u (Or.inr rfl) hzg hu (by omega) hzp h2)
  obtain ⟨c, hc⟩ : ∃ c, c = z.close := ⟨_, rfl⟩
  simp only [← hc] at HCl
  rw [← hc] at hzo ⊢
  have hcb : c.b.length ≤ 40 := by have := hzg.close_.2.2.2.2.2.2.2.2; rw [hc]; omega
  obtain ⟨S1, hS1⟩ : ∃ S1, S1 = packS x.k.o (str (y.b.take n)) := ⟨_, rfl⟩
  obtain ⟨S2, hS2⟩ : ∃ S2, S2 = packS x.k.o (str c.b) := ⟨_, rfl⟩
  simp only [hyo, ← hS1] at HTk
  simp only [hzo, ← hS2] at HCl
  rw [← hS1, ← hS2]
  have hz1 : S1.size ≤ 5000 := by rw [hS1, packS, str_size, M.pack_length, bitsL_len, str_size, List.length_take]; have := hw.2.2.2.2.2.2.1; omega
  have hz2 : S2.size ≤ 10 := by rw [hS2, packS, str_size, M.pack_length, bitsL_len, str_size]; omega
  have p0 : w.cell? ⟨s0, 0, none⟩ = some (.string D) := hs0.cell 0
  have H := hid h
  clear h hx hs0 hf hw hzg hzb hzp hzo hyo hc hS1 hS2 hy hz hnn hl hn hbl hcb
  go_enter Try.func127, Try.ntmps127
  go_wp2_with fail
  go_loopw [6, 15] (fun o i wr => (i = .int .i64 0 ∧ wr = w ∧ o = .slice none 0 0) ∨ (i = .int .i64 1 ∧ ∃ (A0 : Option Addr) (c0 : Nat) (v3 : Value), o = .slice A0 S1.size c0 ∧ Hid (wr.ownsRow w.heap.size 5 1 (.slice A0 S1.size c0) S1.size (S1.data.toList.map vb)) ∧ Hid (∀ g, (Value.slice A0 S1.size c0).ownBlock = some g → v3.ownBlock ≠ some g) ∧ Hid (WS L pb 133 xs pd fb v3 z wr) ∧ Hid (Below L w wr) ∧ Hid (WCalm pd w wr))) (fun _ i _ => (2 - intOf i).toNat)
  case atStart => exact Or.inl ⟨rfl, rfl, rfl⟩
  case round =>
    rcases hrel with ⟨rfl, hww, rfl⟩ | ⟨rfl, A0, c0, v3, rfl, HO, HNe, H3, HB3, HC3⟩
    · have hww2 := hww.symm
      subst hww2
      clear hww
      go_wp2_with fail
      rw [meth_take]
      rotate_left
      · kernel_rfl
      simp only [Result.andThen_ok]
      refine HTk.out.mono ?_
      rintro e w1 ⟨rfl, hb1, hc1, v1, h1⟩
      have H1 := hid h1
      have HB1 := hid hb1
      have HC1 := hid hc1
      clear hb1 hc1 h1 HTk
      have hsz1 : w.heap.size ≤ w1.heap.size := HB1.out.size
      go_wp2_with (at_builtin; refine app_str rfl _ _ 128 9 rfl w1.heap.size 5 Try.underlying128 Try.underlying9 Try.info_u8o _ 0 [] rfl (own_nil _ _ _) S1 rfl (by omega) (Nat.le_refl _) ?_; intro v5 w5 hown5 hb5 hg5)
      obtain ⟨A5, c5, rfl⟩ := own_sl hown5
      simp only [Nat.zero_add, List.nil_append] at hown5 ⊢
      have HO5 := hid (own_mono (B' := w.heap.size) hown5 hsz1)
      have HNe := hid (fun (g : Nat) (hg : (Value.slice A5 S1.size c5).ownBlock = some g) => show v1.ownBlock ≠ some g from fun e => by
        have e1 := (hown5.lt g hg).1
        have e2 := (H1.out.row.elem g e).2.1
        omega)
      have H5 := hid (H1.out.on hb5)
      have HB5 := hid (HB1.out.trans (hb5.mono (Nat.le_trans hL hsz1)))
      have HC5 := hid (HC1.out.on hb5)
      clear hown5 hb5 hg5 H1 HB1 HC1
      go_roundw
      case rel => exact Or.inr ⟨by first | exact trivial | rfl, A5, c5, v1, rfl, HO5, HNe, H5, HB5, HC5⟩
      case measure => simp [intOf]
    · have H4' := hid (H3.out.more (fun g => (Value.slice A0 S1.size c0).ownBlock = some g) (fun g hg => ⟨(HO.out.lt g hg).2, HNe.out g hg⟩))
      go_wp2_with fail
      rw [meth_take]
      rotate_left
      · kernel_rfl
      simp only [Result.andThen_ok]
      refine (HCl.out _ v3 wr (Nat.le_trans hL HB3.out.size) H4'.out).mono ?_
      rintro e w4 ⟨rfl, hb4, hc4, v4, h4⟩
      have HO4 := hid (own_keepB HO.out (fun g cs hv hh => hc4 g _ cs hh (by decide) (by decide) (by decide) (fun _ => Or.inr hv)))
      have H4 := hid h4
      have HB4 := hid (HB3.out.trans hb4)
      have HC4 := hid (HC3.out.trans hc4.less)
      have hsz4 : w.heap.size ≤ w4.heap.size := HB4.out.size
      clear hb4 hc4 h4 H4' H3 HB3 HC3 HCl HTk HNe
      go_wp2_with (at_builtin; refine app_str rfl _ _ 128 9 rfl w.heap.size 5 Try.underlying128 Try.underlying9 Try.info_u8o _ S1.size S1.data.toList rfl HO4.out S2 rfl (by omega) hsz4 ?_; intro v6 w6 hown6 hb6 hg6; have hcv := run_own_str (P := Try.prog) Try.underlying128 Try.underlying5 Try.underlying9 hown6)
      obtain ⟨hW6, hC6⟩ := H4.out.less.other (Or.inr rfl) hg6 (fun g hg => ⟨own_elem HO4.out g hg, fun e => H4.out.ap g e (Or.inr hg), fun hp => by
        have e1 := (HO4.out.lt g hg).1
        have e2 := H.out.pl g hp
        omega⟩)
      have HW6 := hid hW6
      have HS12 := hid (show str (S1.data.toList ++ S2.data.toList) = S1 ++ S2 by rw [← str_append, str_self, str_self])
      have HB6 := hid (HB4.out.trans (below_of_grown hg6 (Nat.le_trans hL hsz4) (fun g hg => by
        have e1 := (HO4.out.lt g hg).1
        omega)))
      have HC6 := hid (HC4.out.trans hC6)
      rw [HS12.out] at hcv
      clear hW6 hC6 hown6 hb6 hg6
      go_wp2
      go_ret2
      exact ⟨rfl, HB6.out, HC6.out, _, HW6.out⟩
end
end Go.Proofs.Ytfklkepodpcdgaa
