/- Slices of numbers: in memory, owned, made, appended to; the laws' own helpers on them. No condition but that they are not too long. -/
import Derived.Test.YtdehancgadkfaaaDoorChecked
import Derived.Test.YtdehancgadkfaaaDoorBb
import Derived.Test.YtdehancgadkfaaaDoorBa
namespace Go.Proofs.YtdehancgadkfaaaDoor
open Go.ChangeShapes Go.WideShapes Go.ChangeAt Go.RowKit Go.Joins
set_option linter.unusedVariables false

def iv (n : Int) : Value := .int .i64 n
/-- A slice of numbers, in a block below L. -/
def NumsAt (w : World) (L : Nat) (A : Option Addr) (cap : Nat) (l : List Int) : Prop :=
  l.length ≤ cap ∧ cap ≤ maxLen ∧ (A = none → cap = 0) ∧ (0 < l.length → ∃ b off, A = some ⟨b, off, none⟩ ∧ b < L ∧ ∀ i n, l[i]? = some n → w.cell? ⟨b, off + i, none⟩ = some (.int .i64 n))
theorem NumsAt.keep {w w' : World} {L cap : Nat} {A : Option Addr} {l : List Int} (h : NumsAt w L A cap l) (hk : ∀ k, k < L → w'.heap[k]? = w.heap[k]?) : NumsAt w' L A cap l :=
  ⟨h.1, h.2.1, h.2.2.1, fun hn => by
    obtain ⟨b, off, e, hb, hc⟩ := h.2.2.2 hn
    exact ⟨b, off, e, hb, fun i p hi => (World.cell?_of_block (a := ⟨b, off + i, none⟩) (hk b hb)).trans (hc i p hi)⟩⟩
theorem NumsAt.mono {w : World} {L L' cap : Nat} {A : Option Addr} {l : List Int} (h : NumsAt w L A cap l) (hL : L ≤ L') : NumsAt w L' A cap l :=
  ⟨h.1, h.2.1, h.2.2.1, fun hn => by obtain ⟨b, off, e, hb, hc⟩ := h.2.2.2 hn; exact ⟨b, off, e, by omega, hc⟩⟩
theorem NumsAt.below {w w' : World} {L B cap : Nat} {A : Option Addr} {l : List Int} (h : NumsAt w L A cap l) (hb : Below B w w') (hL : L ≤ B) : NumsAt w' L A cap l :=
  h.keep fun k hk => hb.block k (by omega)
theorem NumsAt.alloc {w : World} {L cap : Nat} {A : Option Addr} {l : List Int} (h : NumsAt w L A cap l) (hL : L ≤ w.heap.size) (o : Obj) : NumsAt (w.alloc o) L A cap l :=
  h.keep fun k hk => Below.heap_alloc w o k (by omega)
theorem NumsAt.nil (w : World) (L : Nat) : NumsAt w L none 0 [] := ⟨Nat.zero_le _, by simp [maxLen], fun _ => rfl, fun hn => absurd hn (by simp)⟩
theorem NumsAt.cut {w : World} {L cap : Nat} {A : Option Addr} {l : List Int} (h : NumsAt w L A cap l) (n : Nat) : NumsAt w L A cap (l.take n) :=
  ⟨by have := h.1; simp; omega, h.2.1, h.2.2.1, fun hn => by
    have hn2 : 0 < l.length := by simp at hn; omega
    obtain ⟨b, off, e, hb, hc⟩ := h.2.2.2 hn2
    refine ⟨b, off, e, hb, fun i p hi => hc i p ?_⟩
    rw [List.getElem?_take] at hi
    split at hi
    · exact hi
    · cases hi⟩
theorem int_at {w : World} {L cap : Nat} {A : Option Addr} {l : List Int} (h : NumsAt w L A cap l) (i : Nat) (hi : i < l.length) : ∃ b off, A = some ⟨b, off, none⟩ ∧ b < L ∧ w.cell? ⟨b, off + i, none⟩ = some (.int .i64 l[i]) := by
  obtain ⟨b, off, e, hb, hc⟩ := h.2.2.2 (by omega)
  exact ⟨b, off, e, hb, hc i l[i] (List.getElem?_eq_getElem hi)⟩
theorem ivs_len (l : List Int) : (l.map iv).length = l.length := by simp
/-- What owns numbers holds them. -/
theorem own_ints {w : World} {B : Nat} {e : TypeId} {v : Value} {n : Nat} {l : List Int} (h : w.ownsRow B e 1 v n (l.map iv)) : ∃ A cap, v = .slice A l.length cap ∧ NumsAt w w.heap.size A cap l ∧ n = l.length ∧ (A = none ∨ ∃ g, A = some ⟨g, 0, none⟩ ∧ B ≤ g ∧ g < w.heap.size) := by
  have hl := h.1
  rw [ivs_len] at hl
  have hn : n = l.length := by omega
  subst hn
  have hlt := h.lt
  rcases h.2 with ⟨rfl, h0⟩ | ⟨g, cap, cur, rfl, hb, hh, hnc, hcm, hsz, htk⟩
  · have : l = [] := List.length_eq_zero_iff.1 h0
    subst this
    exact ⟨none, 0, rfl, NumsAt.nil _ _, rfl, .inl rfl⟩
  · have hg := hlt g rfl
    refine ⟨some ⟨g, 0, none⟩, cap, rfl, ⟨hnc, hcm, by simp, fun hn => ⟨g, 0, rfl, hg.2, fun i p hi => ?_⟩⟩, rfl, .inr ⟨g, rfl, hb, hg.2⟩⟩
    have hi2 := get_lt hi
    have c0 := h.cellAt i (by omega)
    rw [Nat.zero_add]
    refine c0.trans ?_
    rw [List.getElem?_map, hi]; rfl
theorem own_ints_nil (w : World) (B : Nat) (e : TypeId) : w.ownsRow B e 1 (.slice none 0 0) 0 (([] : List Int).map iv) := World.ownsRow_nil w B e 1
theorem own_ints_at {w : World} {B : Nat} {e : TypeId} {A : Option Addr} {n cap : Nat} {l : List Int} (h : w.ownsRow B e 1 (.slice A n cap) n (l.map iv)) : NumsAt w w.heap.size A cap l := by
  obtain ⟨A', c', e1, h1, h2, _⟩ := own_ints h
  simp at e1
  obtain ⟨rfl, _, rfl⟩ := e1
  exact h1
theorem own_ilen {w : World} {B : Nat} {e : TypeId} {v : Value} {n : Nat} {l : List Int} (h : w.ownsRow B e 1 v n (l.map iv)) : l.length = n := by have := h.1; simpa using this

/-- 'out = append(out, x)' of one number, out the call's own: ONE goal is left. -/
theorem app_int {P : Program} {w : World} {ops : Array Oper} {rest : List Oper} {o : Oper} {a : Act} {Q : Exit → Act → World → Prop} (hgd : o.guard = none) (s x : Operand) (t : TypeId)
    (ho : o.op = .call { callee := .builtin .append, args := #[s, x], argTypes := #[t, t] }) (B : Nat) (e : TypeId) (ht : P.underlying t = some (.slice e))
    (hinfo : (P.info? e).map (fun i => (i.zero, i.size, i.bytes)) = some (some (.int .i64 0), 1, 8)) (v : Value) (n : Nat) (l : List Int) (hs : a.eval s = v) (hown : w.ownsRow B e 1 v n (l.map iv)) (c X : Int) (hX : X = c) (cp : Nat)
    (hx : a.eval x = .slice (some ⟨w.heap.size, 0, none⟩) 1 cp) (hn : n ≤ 1000000000000) (hB : B ≤ w.heap.size)
    (h : ∀ v' w', w'.ownsRow B e 1 v' (n + 1) ((l ++ [c]).map iv) → Below B w w' → w.grownBy w' v.ownBlock → wpList P ops Q rest (a.put o.dst v') w') : wpList P ops Q (o :: rest) a (w.alloc (.cells #[.int .i64 X] e)) := by
  obtain ⟨i0, hi, hz0, hz1, hz2⟩ := info_parts hinfo
  subst hX
  refine wpList_append_own _ hgd s x t ho B e i0 (.int .i64 0) 1 8 ht hi hz0 hz1 hz2 rfl (by decide) v n (l.map iv) hs (hown.alloc _) ⟨w.heap.size, 0, none⟩ 1 cp [.int .i64 X] hx rfl (one_new w _ e) ?_ ?_ (by omega) ?_ ?_
  · intro u hu; simp at hu; subst hu; rfl
  · unfold maxLen; omega
  · have := World.size_alloc w (.cells #[.int .i64 X] e); omega
  · intro v' w' hown' hg _
    have hg2 : w.grownBy w' v.ownBlock := grown_trans (World.grownBy_alloc w _ _) hg
    refine h v' w' ?_ (below_of_grown hg2 hB (fun g hg => (hown.lt g hg).1)) hg2
    simpa [iv] using hown'
theorem made_ints (n : Nat) : (madeCells (Value.int .i64 0).cells (n * 1)).toList = (List.replicate n (0 : Int)).map iv := by
  rw [Nat.mul_one]
  refine (toList_madeCells_one (.int .i64 0) n).trans ?_
  simp [iv]
/-- 'make([]int, n)': ONE goal is left. -/
theorem make_ints {P : Program} {w : World} {ops : Array Oper} {rest : List Oper} {o : Oper} {a : Act} {Q : Exit → Act → World → Prop} (hg : o.guard = none) (l c : Operand) (t : TypeId) (hop : o.op = Op.makeSlice t l c)
    (B : Nat) (e : TypeId) (ht : P.underlying t = some (.slice e)) (hinfo : (P.info? e).map (fun i => (i.zero, i.size, i.bytes)) = some (some (.int .i64 0), 1, 8)) (kl kc : IntKind) (L C : Int) (n : Nat)
    (hl : a.eval l = .int kl L) (hc : a.eval c = .int kc C) (hL : L = (n : Int)) (hC : C = (n : Int)) (hn : n ≤ 1000000000000) (hB : B ≤ w.heap.size)
    (hK : ∀ w', w'.ownsRow B e 1 (.slice (some ⟨w.heap.size, 0, none⟩) n n) n ((List.replicate n (0 : Int)).map iv) → Below B w w' → w.grownBy w' none → wpList P ops Q rest (a.put o.dst (.slice (some ⟨w.heap.size, 0, none⟩) n n)) w') : wpList P ops Q (o :: rest) a w := by
  obtain ⟨i0, hi, hz0, hz1, hz2⟩ := info_parts hinfo
  refine wpList_make_full w hg l c t hop B e i0 (.int .i64 0) 1 ht hi hz0 hz1 kl kc L C n hl hc hL hC (by rw [hz2]; omega) (by unfold maxLen; omega) hB ?_
  intro w' hown hg'
  rw [made_ints] at hown
  exact hK w' hown (below_of_grown hg' hB (by simp)) hg'
theorem own_int {w : World} {B : Nat} {e : TypeId} {G n cap : Nat} {l : List Int} (h : w.ownsRow B e 1 (.slice (some ⟨G, 0, none⟩) n cap) n (l.map iv)) (k : Nat) (p : Int) (hk : l[k]? = some p) : w.cell? ⟨G, k, none⟩ = some (.int .i64 p) := by
  have hl := own_ilen h
  have hk2 := get_lt hk
  refine (h.cellAt k (by omega)).trans ?_
  rw [List.getElem?_map, hk]; rfl
theorem own_store_int {w : World} {B : Nat} {e : TypeId} {G n cap : Nat} {l : List Int} (h : w.ownsRow B e 1 (.slice (some ⟨G, 0, none⟩) n cap) n (l.map iv)) (k : Nat) (p : Int) :
    (w.setCell ⟨G, k, none⟩ (.int .i64 p)).ownsRow B e 1 (.slice (some ⟨G, 0, none⟩) n cap) n ((l.set k p).map iv) := by
  have h1 := (h.stored k (.int .i64 p)).1
  rw [List.map_set]; exact h1

theorem Tryd.info_int : (Tryd.prog.info? 3).map (fun i => (i.zero, i.size, i.bytes)) = some (some (.int .i64 0), 1, 8) := by kernel_rfl

theorem c_eqIntS (A A2 : Option Addr) (cap cap2 : Nat) (l : List Int) (L L2 : Nat) (w : World) (h : NumsAt w L A cap l) (h2 : NumsAt w L2 A2 cap2 l) (hL : L ≤ w.heap.size) (hL2 : L2 ≤ w.heap.size) (hn : l.length ≤ 1048576) : Calls Tryd.prog 10 #[.slice A l.length cap, .slice A2 l.length cap2] w fun e w' => e = .returned (.bool true) ∧ Below w.heap.size w w' := by
  go_enter Tryd.func10, Tryd.ntmps10
  go_wp2_with fail
  go_loopw [5] (fun i wr => ∃ k : Nat, k ≤ l.length ∧ i = .int .i64 k ∧ Below w.heap.size w wr) (fun i _ => l.length - (intOf i).toNat)
  case atStart => exact ⟨0, Nat.zero_le _, rfl, by (repeat (first | with_reducible (first | assumption | exact Below.refl _ _ | refine bel_alloc ?_ _ | refine bel_drew ?_ | refine bel_drewN ?_ _ | refine bel_set ?_ (by first | omega | (simp; done) | (simp; omega)) _ | refine bel_trans ?_ (by assumption)) | assumption | refine bel_trans ?_ (by assumption)))⟩
  case round =>
    obtain ⟨k, hk, rfl, hbl⟩ := hrel
    by_cases hlt : k < l.length
    · obtain ⟨b, off, rfl, hb, hc0⟩ := int_at (h.below hbl hL) k hlt
      obtain ⟨d, off2, rfl, hd, hd0⟩ := int_at (h2.below hbl hL2) k hlt
      obtain ⟨p, hp⟩ : ∃ p, p = l[k] := ⟨_, rfl⟩
      rw [← hp] at hc0 hd0
      clear hp
      go_wp2_with fail
      go_quiet (fail)
      go_wp2
      go_roundw
      case rel => exact ⟨k + 1, by omega, by go_num, by (repeat (first | with_reducible (first | assumption | exact Below.refl _ _ | refine bel_alloc ?_ _ | refine bel_drew ?_ | refine bel_drewN ?_ _ | refine bel_set ?_ (by first | omega | (simp; done) | (simp; omega)) _ | refine bel_trans ?_ (by assumption)) | assumption | refine bel_trans ?_ (by assumption)))⟩
      case measure => simp [intOf]; omega
    · go_wp2
      go_ret
      exact ⟨rfl, by (repeat (first | with_reducible (first | assumption | exact Below.refl _ _ | refine bel_alloc ?_ _ | refine bel_drew ?_ | refine bel_drewN ?_ _ | refine bel_set ?_ (by first | omega | (simp; done) | (simp; omega)) _ | refine bel_trans ?_ (by assumption)) | assumption | refine bel_trans ?_ (by assumption)))⟩

/-- the numbers from s on -/
def mki (n : Nat) (s : Int) : List Int := (List.range n).map fun (i : Nat) => s + (i : Int)
theorem mki_len (n : Nat) (s : Int) : (mki n s).length = n := by simp [mki]
theorem mki_get (n : Nat) (s : Int) (i : Nat) (h : i < n) : (mki n s)[i]? = some (s + i) := by simp [mki, h]
theorem mki_succ (n : Nat) (s : Int) : mki (n + 1) s = mki n s ++ [s + n] := by simp [mki, List.range_succ]

theorem c_markIntS (B G cap : Nat) (l : List Int) (s : Int) (w : World) (h : w.ownsRow B 3 1 (.slice (some ⟨G, 0, none⟩) l.length cap) l.length (l.map iv)) (hn : l.length ≤ 1048576) (hs : 0 ≤ s) (hs2 : s ≤ 1000000000) : Calls Tryd.prog 13 #[.slice (some ⟨G, 0, none⟩) l.length cap, .int .i64 s] w fun e w' => e = .returned (.int .i64 (s + l.length)) ∧ w'.ownsRow B 3 1 (.slice (some ⟨G, 0, none⟩) l.length cap) l.length ((mki l.length s).map iv) ∧ w.grownBy w' (some G) := by
  obtain ⟨N, hN⟩ : ∃ N, N = l.length := ⟨_, rfl⟩
  have HN := hid hN
  rw [← hN] at hn h ⊢
  clear hN
  have HH := hid h
  clear h
  go_enter Tryd.func13, Tryd.ntmps13
  go_wp2_with fail
  go_loopw [1, 5] (fun m i wr => ∃ k : Nat, k ≤ N ∧ i = .int .i64 k ∧ m = .int .i64 (s + k) ∧ wr.ownsRow B 3 1 (.slice (some ⟨G, 0, none⟩) N cap) N ((mki k s ++ l.drop k).map iv) ∧ w.grownBy wr (some G)) (fun _ i _ => N - (intOf i).toNat)
  case atStart => exact ⟨0, Nat.zero_le _, rfl, vint (by simp), by simpa [mki] using HH.out, grown_refl _ _⟩
  case round =>
    obtain ⟨k, hk, rfl, rfl, hown, hgr⟩ := hrel
    by_cases hlt : k < N
    · have hlt2 : k < l.length := by have := HN.out; omega
      obtain ⟨p, hp⟩ : ∃ p, p = l[k] := ⟨_, rfl⟩
      have HE := hid (show (mki k s ++ l.drop k)[k]? = some p by
        rw [List.getElem?_append_right (by rw [mki_len]; omega), mki_len, Nat.sub_self, List.getElem?_drop, Nat.add_zero, hp]; exact List.getElem?_eq_getElem hlt2)
      have HS := hid (show (mki k s ++ l.drop k).set k (s + k) = mki (k + 1) s ++ l.drop (k + 1) by
        rw [List.set_append, if_neg (by rw [mki_len]; omega), mki_len, Nat.sub_self, List.drop_eq_getElem_cons hlt2, List.set_cons_zero, mki_succ]; simp)
      clear hp
      have q0 := own_int hown k _ HE.out
      have f0 := hown.frozenAt k
      have hst := own_store_int hown k (s + k)
      rw [HS.out] at hst
      have hst2 := grown_set hgr k (.int .i64 (s + k))
      have HT := hid (And.intro hst hst2)
      clear hst hst2 hown hgr
      go_wp2
      go_roundw
      case rel => exact ⟨k + 1, by omega, by go_num, vint (by omega), HT.out.1, HT.out.2⟩
      case measure => simp [intOf]; omega
    · have HD := hid (show mki k s ++ l.drop k = mki N s by rw [show k = N from by omega, List.drop_of_length_le (by have := HN.out; omega)]; simp)
      rw [HD.out] at hown
      go_wp2
      go_ret
      exact ⟨ret_int (by omega), hown, hgr⟩

theorem c_heldIntS (L : Nat) (A : Option Addr) (cap n : Nat) (s : Int) (w : World) (h : NumsAt w L A cap (mki n s)) (hn : n ≤ 1048576) (hs : 0 ≤ s) (hs2 : s ≤ 1000000000) : Calls Tryd.prog 14 #[.slice A n cap, .int .i64 s] w (Same (.int .i64 (s + n)) w) := by
  have HH := hid h
  clear h
  go_enter Tryd.func14, Tryd.ntmps14
  go_wp2_with fail
  go_loop [1, 5] (fun m i => ∃ k : Nat, k ≤ n ∧ i = .int .i64 k ∧ m = .int .i64 (s + k)) (fun _ i => n - (intOf i).toNat)
  case atStart => exact ⟨0, Nat.zero_le _, rfl, vint (by simp)⟩
  case round =>
    obtain ⟨k, hk, rfl, rfl⟩ := hrel
    by_cases hlt : k < n
    · obtain ⟨b, off, rfl, hb, hc⟩ := HH.out.2.2.2 (by rw [mki_len]; omega)
      have hc0 := hc k _ (mki_get n s k hlt)
      clear hc
      go_wp2
      go_round
      case rel => exact ⟨k + 1, by omega, by go_num, vint (by omega)⟩
      case measure => simp [intOf]; omega
    · go_wp2
      go_ret
      exact ⟨ret_int (by omega), rfl⟩

theorem own_none {w : World} {B : Nat} {e : TypeId} {size n m cap : Nat} {xs : List Value} (h : w.ownsRow B e size (.slice none n cap) m xs) : n = 0 ∧ cap = 0 ∧ m = 0 := by
  rcases h.2 with ⟨e1, h0⟩ | ⟨g, cap', cur, e1, _⟩
  · simp at e1; exact ⟨e1.1, e1.2, h0⟩
  · simp at e1
theorem own_some {w : World} {B : Nat} {e : TypeId} {size n m cap : Nat} {a : Addr} {xs : List Value} (h : w.ownsRow B e size (.slice (some a) n cap) m xs) : ∃ g, a = ⟨g, 0, none⟩ := by
  rcases h.2 with ⟨e1, h0⟩ | ⟨g, cap', cur, e1, _⟩
  · simp at e1
  · simp at e1; exact ⟨g, e1.1⟩

theorem c_markIntS_nil (s : Int) (w : World) : Calls Tryd.prog 13 #[.slice none 0 0, .int .i64 s] w (Same (.int .i64 s) w) := by
  go_enter Tryd.func13, Tryd.ntmps13
  go_wp2_with fail
  go_loop [1, 5] (fun m i => m = .int .i64 s ∧ i = .int .i64 0) (fun _ i => 0)
  case atStart => exact ⟨rfl, rfl⟩
  case round =>
    obtain ⟨rfl, rfl⟩ := hrel
    go_wp2
    go_ret
    exact ⟨rfl, rfl⟩

theorem c_markIntS_any (l : List Int) (s : Int) (B cap : Nat) (A : Option Addr) (w : World) (h : w.ownsRow B 3 1 (.slice A l.length cap) l.length (l.map iv)) (hn : l.length ≤ 1048576) (hs : 0 ≤ s) (hs2 : s ≤ 1000000000) : Calls Tryd.prog 13 #[.slice A l.length cap, .int .i64 s] w fun e w' => e = .returned (.int .i64 (s + l.length)) ∧ w'.ownsRow B 3 1 (.slice A l.length cap) l.length ((mki l.length s).map iv) ∧ w.grownBy w' (Value.slice A l.length cap).ownBlock := by
  cases A with
  | none =>
    obtain ⟨h1, h2, _⟩ := own_none h
    rw [h1, h2]
    refine (c_markIntS_nil _ _).mono ?_
    rintro e w' ⟨rfl, rfl⟩
    exact ⟨ret_int (by simp), own_ints_nil _ _ _, grown_refl _ _⟩
  | some a =>
    obtain ⟨g, rfl⟩ := own_some h
    exact (c_markIntS B g cap l s w h hn hs hs2).mono fun e w' h2 => ⟨h2.1, h2.2.1, h2.2.2⟩
end Go.Proofs.YtdehancgadkfaaaDoor
