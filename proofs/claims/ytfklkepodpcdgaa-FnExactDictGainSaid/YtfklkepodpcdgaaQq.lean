/- Plain mathematics: what a clear code keeps stays the same while a writer writes; a writer's data at once. No condition. -/
import Derived.Test.YtfklkepodpcdgaaQm
namespace Go.Proofs.Ytfklkepodpcdgaa
set_option linter.unusedVariables false
set_option linter.unusedSimpArgs false

theorem Kn.Ok.step_cleared {k : Kn} (h : k.Ok) (code : Int) : (k.step code).cleared = k.cleared := by
  have h1 := h.base0
  have h2 := h.base1
  unfold Kn.step
  split
  · unfold Kn.cleared
    simp [List.take_take]
  · unfold Kn.after Kn.cleared
    simp only
    split
    · rw [List.take_append_of_le_length (by omega)]
    · rfl
theorem Kn.settled_cleared (q : Kn) : q.settled.cleared = q.settled := by
  unfold Kn.settled Kn.cleared
  simp
namespace Wr
theorem put_cl {x : Wr} (h : x.k.Ok) (code : Int) : (x.put code).k.cleared = x.k.cleared := by
  unfold Wr.put
  split
  · rfl
  · exact h.step_cleared code
theorem Go.start_cl {x : Wr} (h : x.Go) : x.start.k.cleared = x.k.cleared := by
  unfold Wr.start
  split
  · rfl
  · exact put_cl h.ok _
theorem Go.one_cl {x : Wr} (h : x.Go) : x.one.k.cleared = x.k.cleared := put_cl h.ok _
theorem Go.room_cl {x : Wr} (h : x.Go) : x.room.k.cleared = x.k.cleared := by
  unfold Wr.room
  split
  · exact put_cl h.ok _
  · rfl
theorem Go.last_cl {x : Wr} (h : x.Go) : x.last.k.cleared = x.k.cleared := by
  unfold Wr.last
  split
  · rfl
  · exact put_cl h.ok _
theorem Sv.loop_cl : ∀ (f : Nat) {x y : Wr}, Sv x y → (Wr.loop f y).k.cleared = y.k.cleared
  | 0, x, y, h => rfl
  | f + 1, x, y, h => by
    unfold Wr.loop
    split
    · rfl
    · rename_i hl
      obtain ⟨h1, h2⟩ := h.next hl
      obtain ⟨a1, _⟩ := h.go.one h.ne
      rw [Sv.loop_cl f h1, a1.room_cl, h.go.one_cl]
theorem Go.close_ {x : Wr} (h : x.Go) : x.close.Go ∧ x.close.k.cleared = x.k.cleared ∧ x.close.g = true ∧ x.close.p = [] ∧ x.close.k.c = x.k.c ∧ x.close.k.o = x.k.o ∧ x.close.k.l = x.k.l ∧ x.close.k.m = x.k.m ∧ x.close.b.length ≤ x.b.length + 30 := by
  obtain ⟨a1, a2, a3, a4, a5, a6, a7, a8⟩ := h.start
  obtain ⟨b1, b2, b3, b4, b5, b6, b7, b8⟩ := a1.last
  obtain ⟨c1, c2, c3, c4, c5, c6, c7, c8, c9⟩ := b1.put (Or.inr (Or.inl rfl))
  unfold Wr.close
  refine ⟨c1, ?_, ?_, ?_, ?_, ?_, ?_, ?_, by omega⟩
  · rw [put_cl b1.ok, a1.last_cl, h.start_cl]
  · rw [c3, b3, a3]
  · rw [c2, b2]
  · rw [c4, b4, a4]
  · rw [c5, b5, a5]
  · rw [c6, b6, a6]
  · rw [c7, b7, a7]
/-- data that fits behind what is pending -/
theorem Go.write_ {x : Wr} (h : x.Go) {d : List UInt8} (hl : Lits x.k.c d) (hb : x.b.length ≤ 7) (hn : x.p.length + d.length ≤ 2000) : (x.write d).Go ∧ (x.write d).k.cleared = x.k.cleared ∧ (x.write d).k.c = x.k.c ∧ (x.write d).k.o = x.k.o ∧ (x.write d).k.l = x.k.l ∧ (x.write d).k.m = x.k.m ∧ (x.write d).b.length ≤ 30100 ∧ (x.write d).p.length ≤ 2500 := by
  unfold Wr.write
  by_cases hd : d = []
  · rw [if_pos hd]
    exact ⟨h, rfl, rfl, rfl, rfl, rfl, by omega, by omega⟩
  · rw [if_neg hd]
    obtain ⟨a1, a2, a3, a4, a5, a6, a7, a8⟩ := h.start
    have hg : ({ x.start with p := x.p ++ d } : Wr).Go := ⟨a1.ok, fun b hb => by
      show (b.toNat : Int) < x.start.k.c
      rw [a4]
      rcases List.mem_append.1 hb with h1 | h1
      · exact h.lit b h1
      · exact hl b h1, a1.bit⟩
    have hne : ({ x.start with p := x.p ++ d } : Wr).p ≠ [] := by
      show x.p ++ d ≠ []
      simp [hd]
    have hsv := Sv.refl hg hne
    obtain ⟨s1, s2⟩ := Sv.loop (x.p.length + d.length) hsv (by show (x.p ++ d).length ≤ _; simp)
    have hcl := Sv.loop_cl (x.p.length + d.length) hsv
    obtain ⟨y, hy⟩ : ∃ y, y = Wr.loop (x.p.length + d.length) { x.start with p := x.p ++ d } := ⟨_, rfl⟩
    rw [← hy] at s1 s2 hcl ⊢
    have hph := s1.ph
    have e1 : ({ x.start with p := x.p ++ d } : Wr).phi = 2 * x.start.b.length + 30 * (x.p ++ d).length + 10 * x.start.k.phi := rfl
    have e2 := phi_le x.start.k
    have e3 : y.phi = 2 * y.b.length + 30 * y.p.length + 10 * y.k.phi := rfl
    rw [List.length_append] at e1
    refine ⟨s1.go, ?_, s1.c.trans a4, s1.o.trans a5, s1.l.trans a6, s1.m.trans a7, by omega, by omega⟩
    rw [hcl]
    exact h.start_cl
end Wr
/-- bits that are written in two parts, the first one of whole bytes -/
theorem Wr.two_packs {k0 : Kn} (h : k0.Ok) {D : List UInt8} (hl : Lits k0.c D) (n : Nat) (hn : n = ((Wr.fresh k0).write D).b.length / 8 * 8) :
    packS k0.o (str (((Wr.fresh k0).write D).b.take n)) ++ packS k0.o (str ((((Wr.fresh k0).write D).cut n).close.b)) = k0.packed (k0.greedy D) := by
  obtain ⟨y, hy⟩ : ∃ y, y = (Wr.fresh k0).write D := ⟨_, rfl⟩
  have ha := Wr.all_bits h hl
  rw [← hy] at hn ha ⊢
  have hle : n ≤ y.b.length := by omega
  obtain ⟨t, ht⟩ := y.close_grow
  rw [Wr.close_cut y n hle]
  show packS k0.o (str (y.b.take n)) ++ packS k0.o (str (y.close.b.drop n)) = _
  rw [ht, List.drop_append_of_le_length hle, packS_app _ _ _ (by rw [List.length_take, Nat.min_eq_left hle]; omega), ← List.append_assoc, List.take_append_drop, ← ht, ha, ← Kn.bits_bl]
  rfl
end Go.Proofs.Ytfklkepodpcdgaa
