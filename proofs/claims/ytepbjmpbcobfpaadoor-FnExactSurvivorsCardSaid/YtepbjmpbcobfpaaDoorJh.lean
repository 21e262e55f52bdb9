/- FindBlocks in both programs, and its law's walk. The layout of the header and the errors are as the program's text lays them. -/
import Derived.Test.YtepbjmpbcobfpaaDoorJi
namespace Go.Proofs.YtepbjmpbcobfpaaDoor
open Go.ChangeShapes Go.WideShapes Go.ChangeAt Go.RowKit Go.Joins
set_option linter.unusedVariables false
set_option linter.unusedSimpArgs false

/-- the blocks that are found from an index on, one behind the other -/
def Chain (L : List UInt8) : Nat → List Fo → Prop
  | i, [] => NextIs L i none
  | i, f :: l => ∃ (s : Nat) (b : Bl), NextIs L i (some s) ∧ parse (L.drop s) = some b ∧ f = ⟨(s : Int), b.n, b.raw, b.z, b.body⟩ ∧ Chain L (s + 10 + b.body.size) l
theorem chain_ex (L : List UInt8) : ∀ (m i : Nat), L.length + 1 - i ≤ m → ∃ l, Chain L i l
  | 0, i, h => by
    obtain ⟨r, hr⟩ := next_ex L _ i (Nat.le_refl _)
    have := hr.past (by omega)
    subst this
    exact ⟨[], hr⟩
  | m + 1, i, h => by
    obtain ⟨r, hr⟩ := next_ex L _ i (Nat.le_refl _)
    cases r with
    | none => exact ⟨[], hr⟩
    | some s =>
      obtain ⟨h1, h2, h3⟩ := hr.2 s rfl
      cases hp : parse (L.drop s) with
      | none => exact absurd hp h3
      | some b =>
        obtain ⟨l, hl⟩ := chain_ex L m (s + 10 + b.body.size) (by omega)
        exact ⟨_ :: l, s, b, hr, hp, rfl, hl⟩
theorem chain_len {L : List UInt8} : ∀ {l : List Fo} {i : Nat}, Chain L i l → l = [] ∨ l.length * 11 + i ≤ L.length
  | [], i, _ => Or.inl rfl
  | f :: l, i, h => by
    obtain ⟨s, b, h1, h2, h3, h4⟩ := h
    obtain ⟨g1, g2, -⟩ := h1.2 s rfl
    obtain ⟨p1, p2, -⟩ := parse_len h2
    rw [List.length_drop] at p2
    have p3 := (b.len p1).1
    refine Or.inr ?_
    rcases chain_len h4 with h5 | h5
    · subst h5; simp; omega
    · rw [List.length_cons]; omega
theorem chain_small {L : List UInt8} {l : List Fo} {i : Nat} (h : Chain L i l) (hL : L.length ≤ 8000) : l.length ≤ 1000 := by
  rcases chain_len h with h1 | h1
  · subst h1; simp
  · omega
/-- where the first of them begins -/
def hdO : List Fo → Option Nat
  | [] => none
  | f :: _ => some f.s.toNat
theorem Chain.next {L : List UInt8} {i : Nat} {l : List Fo} (h : Chain L i l) : NextIs L i (hdO l) := by
  cases l with
  | nil => exact h
  | cons f l =>
    obtain ⟨s, b, h1, -, h3, -⟩ := h
    rw [h3]
    exact h1

theorem own_fo0 (W : World) (B : Nat) (hB : B ≤ W.heap.size) : (W.alloc (.cells #[] 40)).ownsRow B 40 5 (.slice (some ⟨W.heap.size, 0, none⟩) 0 0) 0 (fvs []) := World.ownsRow_made (e := 40) (size := 5) (base := B) W #[] 0 hB (by simp) (by simp [maxLen])
theorem chain_drop {L : List UInt8} {i s n : Nat} {l : List Fo} (h : Chain L i l) (hs : s < i) (hsn : s < n) (hn : L.length = n) : (if nbV (hdO l) < 0 then 0 else n + 1 - (nbV (hdO l)).toNat) < n + 1 - s := by
  cases l with
  | nil =>
    rw [show nbV (hdO []) = -1 from rfl, if_pos (by omega)]
    omega
  | cons f l =>
    obtain ⟨t, b, h1, -, h3, -⟩ := h
    obtain ⟨g1, g2, -⟩ := h1.2 t rfl
    subst h3
    rw [show nbV (hdO (⟨(t : Int), b.n, b.raw, b.z, b.body⟩ :: l)) = (t : Int) from rfl, if_neg (by omega), Int.toNat_natCast]
    omega

set_option maxHeartbeats 4000000 in
set_option maxRecDepth 100000 in
theorem c_sFindBlocks (S : ByteArray) (L : List UInt8) (l : List Fo) (w : World) (hS : S.size ≤ 8000) (hL : L = S.data.toList) (h : Chain L 0 l) : Calls Tryd.prog 8 #[.string S] w fun e w' => ∃ A cap, e = .returned (.slice A l.length cap) ∧ w'.ownsRow w.heap.size 40 5 (.slice A l.length cap) l.length (fvs l) ∧ Below w.heap.size w w' := by
  have hLl : L.length = S.size := by rw [hL]; simp
  have HS := hid (fun (k : Nat) (b : Bl) (v : World) (hk : k ≤ S.size) (hp : parse (L.drop k) = some b) => c_PB_some S k (L.drop k) b v (by omega) hk (by rw [hL]) hp)
  have HN := hid (fun (k : Nat) (r : Option Nat) (v : World) (hk : k ≤ 9223372036854775807) (hn : NextIs L k r) => c_sNextBlock S L k r v hS hL hk hn)
  have HLl := hid hLl
  have HC := hid h
  have HLn := hid (chain_small h (by omega))
  clear h hL hLl
  go_enter Tryd.func8, Tryd.ntmps8
  go_wp2_with fail
  refine (HN.out 0 _ _ (by omega) HC.out.next).mono ?_
  rintro e w1 ⟨rfl, hb1⟩
  have own1 := own_on (own_fo0 w w.heap.size (Nat.le_refl _)) hb1
  have hbA := (bel_alloc (Below.refl _ w) (.cells #[] 40)).trans (hb1.mono (by rw [World.size_alloc]; omega))
  clear hb1
  go_wp2_with fail
  go_loopw [3, 4] (fun v a wr => ∃ (l1 l2 : List Fo) (i : Nat), Hid (l = l1 ++ l2) ∧ a = .int .i64 (nbV (hdO l2)) ∧ Hid (Chain L i l2) ∧ wr.ownsRow w.heap.size 40 5 v l1.length (fvs l1) ∧ Below w.heap.size w wr) (fun _ a _ => if intOf a < 0 then 0 else S.size + 1 - (intOf a).toNat)
  case atStart => exact ⟨[], l, 0, hid rfl, rfl, HC, own1, hbA⟩
  case round =>
    clear own1 hbA
    obtain ⟨l1, l2, i, Hl, rfl, HCh, hown, hbl⟩ := hrel
    have hz := hbl.size
    cases l2 with
    | nil =>
      rw [show nbV (hdO []) = -1 from rfl]
      have He := hid (Hl.out.trans (List.append_nil l1))
      obtain ⟨A, cap, rfl, -, -⟩ := own_fos hown
      clear HCh Hl
      go_wp2_with fail
      go_ret
      exact ⟨A, cap, by rw [He.out]; rfl, by rw [He.out]; exact hown, hbl⟩
    | cons f l2 =>
      obtain ⟨s, b, h1, h2, rfl, h4⟩ := HCh.out
      obtain ⟨g1, g2, -⟩ := h1.2 s rfl
      have hsS : s < S.size := by have := HLl.out; omega
      have hbs := (b.len (parse_len h2).1).2
      have He := hid (show nbV (hdO (⟨(s : Int), b.n, b.raw, b.z, b.body⟩ :: l2)) = (s : Int) from rfl)
      rw [He.out]
      have HP := hid (HS.out s b wr (by omega) h2)
      have HNx := hid (fun (v : World) => HN.out (s + 10 + b.body.size) _ v (by omega) h4.next)
      have HC4 := hid h4
      have HMs := hid (chain_drop (s := s) h4 (by omega) hsS HLl.out)
      have Hl2 := hid (show l = (l1 ++ [⟨(s : Int), b.n, b.raw, b.z, b.body⟩]) ++ l2 by rw [Hl.out, List.append_assoc]; rfl)
      have hl1 : l1.length ≤ 1000 := by have := HLn.out; have h9 := congrArg List.length Hl.out; rw [List.length_append] at h9; omega
      have HO := hid hown
      have hcast : ((s + 10 + b.body.size : Nat) : Int) = (s : Int) + 10 + b.body.size := by omega
      rw [hcast] at HNx
      have hRB : ∀ w3 : World, Blk (w3.alloc (.cells #[.int .i64 0, .bool false, .int .i64 0, .string ByteArray.empty] 35)) w3.heap.size 35 #[.int .i64 0, .bool false, .int .i64 0, .string ByteArray.empty] := fun w3 => Blk.new w3 _ _
      clear h1 h2 h4 HCh Hl g1 g2 hown hcast
      go_wp2_with fail
      refine (HP.out).mono ?_
      rintro e w3 ⟨rfl, hb3⟩
      have hR3 := hRB w3
      obtain ⟨r0, r1, r2, r3⟩ := hR3.cells4y
      have f0 := hR3.frozen 0
      have f1 := hR3.frozen 1
      have f2 := hR3.frozen 2
      have f3 := hR3.frozen 3
      clear hRB hR3
      have hbl3 := hbl.trans (hb3.mono hz)
      have hz3 := hbl3.size
      have HO3 := hid (own_on (own_on HO.out hb3) (bel_alloc (Below.refl _ w3) (.cells #[.int .i64 b.n, .bool b.raw, .int .i64 b.z, .string b.body] 35)))
      go_wp2_with (at_builtin; refine app_fo rfl _ _ 24 rfl w.heap.size 40 Tryd.underlying24 Tryd.info_found _ l1.length l1 rfl HO3.out ⟨(s : Int), b.n, b.raw, b.z, b.body⟩ _ _ _ _ _ rfl 1 (by rw [World.size_alloc]; rfl) (by omega) (by rw [World.size_alloc]; omega) ?_; intro v4 w4 hown4 hb4 hg4)
      refine (HNx.out _).mono ?_
      rintro e w5 ⟨rfl, hb5⟩
      have hbl4 := (hbl3.trans ((bel_alloc (Below.refl _ w3) (.cells #[.int .i64 b.n, .bool b.raw, .int .i64 b.z, .string b.body] 35)).mono hz3)).trans hb4
      have hbl5 := hbl4.trans (hb5.mono hbl4.size)
      have hown5 := own_on hown4 hb5
      rw [show l1.length + 1 = (l1 ++ [(⟨(s : Int), b.n, b.raw, b.z, b.body⟩ : Fo)]).length from by simp] at hown5
      clear hown4 hb4 hg4 hb5
      go_wp2_with fail
      go_roundw
      case rel => exact ⟨_, l2, _, Hl2, rfl, HC4, hown5, hbl5⟩
      case measure =>
        show (if nbV (hdO l2) < 0 then 0 else S.size + 1 - (nbV (hdO l2)).toNat) < (if ((s : Nat) : Int) < 0 then 0 else S.size + 1 - ((s : Nat) : Int).toNat)
        rw [if_neg (show ¬ (((s : Nat) : Int) < 0) by omega), Int.toNat_natCast]
        exact HMs.out

set_option maxHeartbeats 4000000 in
set_option maxRecDepth 100000 in
theorem c_sFindBlocks_no (S : ByteArray) (w : World) (hS : S.size ≤ 1000000000000) (h : ¬ S.size ≤ 8000) : Calls Tryd.prog 8 #[.string S] w fun e w' => ∃ A cap, e = .returned (.slice A ([] : List Fo).length cap) ∧ w'.ownsRow w.heap.size 40 5 (.slice A ([] : List Fo).length cap) ([] : List Fo).length (fvs []) ∧ Below w.heap.size w w' := by
  have HN := hid (fun (v : World) => c_sNextBlock_no S 0 v hS (fun hh => h hh.1))
  clear h
  go_enter Tryd.func8, Tryd.ntmps8
  go_wp2_with fail
  refine (HN.out _).mono ?_
  rintro e w1 ⟨rfl, hb1⟩
  have own1 := own_on (own_fo0 w w.heap.size (Nat.le_refl _)) hb1
  have hbA := (bel_alloc (Below.refl _ w) (.cells #[] 40)).trans (hb1.mono (by rw [World.size_alloc]; omega))
  clear hb1
  go_wp2_with fail
  go_loopw [3, 4] (fun v a wr => v = .slice (some ⟨w.heap.size, 0, none⟩) 0 0 ∧ a = .int .i64 (-1) ∧ wr = w1) (fun _ a _ => 0)
  case atStart => exact ⟨rfl, rfl, rfl⟩
  case round =>
    obtain ⟨rfl, rfl, rfl⟩ := hrel
    go_wp2_with fail
    go_ret
    exact ⟨_, _, rfl, own1, hbA⟩

theorem c_FindBlocks_no (S : ByteArray) (w : World) (hS : S.size ≤ 1000000000000) (h : ¬ S.size ≤ 8000) : Calls Tryd.prog 9 #[.string S] w fun e w' => ∃ A cap, e = .returned (.slice A ([] : List Fo).length cap) ∧ w'.ownsRow w.heap.size 40 5 (.slice A ([] : List Fo).length cap) ([] : List Fo).length (fvs []) ∧ Below w.heap.size w w' := by
  have hd : decide ((8000 : Int) < (S.size : Int)) = true := decide_eq_true (by omega)
  clear h
  go_enter Tryd.func9, Tryd.ntmps9
  go_wp2_with fail
  go_ret
  exact ⟨none, 0, rfl, own_fos_nil _ _ _, Below.refl _ _⟩

def hdF : List Fo → Fo
  | [] => ⟨0, 0, false, 0, ByteArray.empty⟩
  | f :: _ => f
def nxt : List Fo → Int
  | [] => 0
  | f :: _ => f.s + 10 + f.body.size
def okl : List Fo → Bool
  | [] => false
  | _ :: _ => true
theorem Chain.scan {L : List UInt8} {i : Nat} {l : List Fo} (h : Chain L i l) : scV L (hdO l) = .tuple #[.agg #[.int .i64 (hdF l).s, .int .i64 (hdF l).n, .bool (hdF l).raw, .int .i64 (hdF l).z, .string (hdF l).body], .int .i64 (nxt l), .bool (okl l)] := by
  cases l with
  | nil => rfl
  | cons f l =>
    obtain ⟨s, b, -, h2, rfl, -⟩ := h
    rw [show hdO (⟨(s : Int), b.n, b.raw, b.z, b.body⟩ :: l) = some s from rfl]
    simp only [scV, h2]
    rfl
theorem chain_drop2 {L : List UInt8} {i s n : Nat} {l : List Fo} (h : Chain L i l) (hs : s ≤ i) (hsn : s ≤ n) (hn : L.length = n) : (if okl l = true then n + 1 - (nxt l).toNat else 0) < n + 1 - s := by
  cases l with
  | nil =>
    rw [show okl [] = false from rfl, if_neg (by simp)]
    omega
  | cons f l =>
    obtain ⟨t, b, h1, -, h3, -⟩ := h
    obtain ⟨g1, g2, -⟩ := h1.2 t rfl
    subst h3
    rw [show nxt (⟨(t : Int), b.n, b.raw, b.z, b.body⟩ :: l) = (t : Int) + 10 + b.body.size from rfl, show okl (⟨(t : Int), b.n, b.raw, b.z, b.body⟩ :: l) = true from rfl, if_pos rfl]
    omega
def boolOf : Value → Bool | .bool b => b | _ => false

set_option maxHeartbeats 4000000 in
set_option maxRecDepth 100000 in
theorem c_FindBlocks (S : ByteArray) (L : List UInt8) (l : List Fo) (w : World) (a0 : Addr) (hS : S.size ≤ 8000) (hL : L = S.data.toList) (h : Chain L 0 l) (hG : Glob0 w a0) : Calls Tryd.prog 9 #[.string S] w fun e w' => ∃ A cap, e = .returned (.slice A l.length cap) ∧ w'.ownsRow w.heap.size 40 5 (.slice A l.length cap) l.length (fvs l) ∧ Below w.heap.size w w' := by
  have hLl : L.length = S.size := by rw [hL]; simp
  have HSc := hid (fun (k : Nat) (l2 : List Fo) (v : World) (hk : k ≤ S.size) (hc : Chain L k l2) (hG : Glob0 v a0) => (by
    have h9 := c_scan S L k (hdO l2) v a0 a0 a0 hS hL hk hc.next hG
    rw [hc.scan] at h9
    exact h9 : Calls Tryd.prog 21 #[.string S, .int .i64 (k : Int)] v fun e w' => e = .returned (.tuple #[.agg #[.int .i64 (hdF l2).s, .int .i64 (hdF l2).n, .bool (hdF l2).raw, .int .i64 (hdF l2).z, .string (hdF l2).body], .int .i64 (nxt l2), .bool (okl l2)]) ∧ Below v.heap.size v w'))
  have HLl := hid hLl
  have HC := hid h
  have HG := hid hG
  have HLn := hid (chain_small h (by omega))
  have hd : decide ((8000 : Int) < (S.size : Int)) = false := decide_eq_false (by omega)
  clear h hL hLl hG
  go_enter Tryd.func9, Tryd.ntmps9
  go_wp2_with fail
  refine (HSc.out 0 l _ (Nat.zero_le _) HC.out HG.out).mono ?_
  rintro e w1 ⟨rfl, hb1⟩
  have hRB := Blk.new w1 40 #[.int .i64 0, .int .i64 0, .bool false, .int .i64 0, .string ByteArray.empty]
  obtain ⟨r0, r1, r2, r3, r4⟩ := hRB.cells5
  have f0 := hRB.frozen 0
  have f1 := hRB.frozen 1
  have f2 := hRB.frozen 2
  have f3 := hRB.frozen 3
  have f4 := hRB.frozen 4
  have z1 := hb1.size
  clear hRB
  go_wp2_with fail
  clear r0 r1 r2 r3 r4 f0 f1 f2 f3 f4
  have HB0 := hid (Blk.new w1 40 #[.int .i64 (hdF l).s, .int .i64 (hdF l).n, .bool (hdF l).raw, .int .i64 (hdF l).z, .string (hdF l).body])
  have hbV := bel_alloc (Below.refl _ w1) (.cells #[.int .i64 (hdF l).s, .int .i64 (hdF l).n, .bool (hdF l).raw, .int .i64 (hdF l).z, .string (hdF l).body] 40)
  have zV : (w1.alloc (.cells #[.int .i64 (hdF l).s, .int .i64 (hdF l).n, .bool (hdF l).raw, .int .i64 (hdF l).z, .string (hdF l).body] 40)).heap.size = w1.heap.size + 1 := World.size_alloc _ _
  obtain ⟨V, hV⟩ : ∃ V, V = w1.alloc (.cells #[.int .i64 (hdF l).s, .int .i64 (hdF l).n, .bool (hdF l).raw, .int .i64 (hdF l).z, .string (hdF l).body] 40) := ⟨_, rfl⟩
  rw [← hV] at HB0 hbV zV ⊢
  have hlV : w1.heap.size < V.heap.size := by omega
  clear hV zV
  go_loopw [3, 5, 6] (fun v a q wr => ∃ (l1 l2 : List Fo) (i : Nat), Hid (l = l1 ++ l2) ∧ a = .int .i64 (nxt l2) ∧ q = .bool (okl l2) ∧ Hid (Chain L i l2) ∧ Hid (Blk wr w1.heap.size 40 #[.int .i64 (hdF l2).s, .int .i64 (hdF l2).n, .bool (hdF l2).raw, .int .i64 (hdF l2).z, .string (hdF l2).body]) ∧ wr.ownsRow V.heap.size 40 5 v l1.length (fvs l1) ∧ V.heap.size ≤ wr.heap.size ∧ Below w1.heap.size w1 wr) (fun _ a q _ => if boolOf q = true then S.size + 1 - (intOf a).toNat else 0)
  case atStart => exact ⟨[], l, 0, hid rfl, rfl, rfl, HC, HB0, own_fos_nil _ _ _, Nat.le_refl _, hbV⟩
  case round =>
    clear hbV HB0
    obtain ⟨l1, l2, i, Hl, rfl, rfl, HCh, HBx, hown, hVz, hbl⟩ := hrel
    have hWl := hb1.trans (hbl.mono z1)
    cases l2 with
    | nil =>
      rw [show okl [] = false from rfl]
      have He := hid (Hl.out.trans (List.append_nil l1))
      obtain ⟨A, cap, rfl, -, -⟩ := own_fos hown
      clear HCh Hl HBx
      go_wp2_with fail
      go_ret
      exact ⟨A, cap, by rw [He.out]; rfl, by rw [He.out]; exact own_mono hown (by omega), hWl⟩
    | cons f l2 =>
      obtain ⟨s, b, h1, h2, rfl, h4⟩ := HCh.out
      obtain ⟨g1, g2, -⟩ := h1.2 s rfl
      have hp := (parse_len h2).2.1
      rw [List.length_drop] at hp
      have hkS : s + 10 + b.body.size ≤ S.size := by have := HLl.out; omega
      have HB := hid (show Blk wr w1.heap.size 40 #[.int .i64 (s : Int), .int .i64 b.n, .bool b.raw, .int .i64 b.z, .string b.body] from HBx.out)
      have hcast : ((s + 10 + b.body.size : Nat) : Int) = (s : Int) + 10 + b.body.size := by omega
      rw [show okl (⟨(s : Int), b.n, b.raw, b.z, b.body⟩ :: l2) = true from rfl, show nxt (⟨(s : Int), b.n, b.raw, b.z, b.body⟩ :: l2) = (s : Int) + 10 + b.body.size from rfl]
      have HNx := hid (fun (v : World) (hG : Glob0 v a0) => HSc.out (s + 10 + b.body.size) l2 v hkS h4 hG)
      rw [hcast] at HNx
      have HC4 := hid h4
      have HMs := hid (chain_drop2 (s := s + 10 + b.body.size) h4 (Nat.le_refl _) hkS HLl.out)
      have Hl2 := hid (show l = (l1 ++ [⟨(s : Int), b.n, b.raw, b.z, b.body⟩]) ++ l2 by rw [Hl.out, List.append_assoc]; rfl)
      have hl1 : l1.length ≤ 1000 := by have := HLn.out; have h9 := congrArg List.length Hl.out; rw [List.length_append] at h9; omega
      obtain ⟨A, cap, rfl, -, -⟩ := own_fos hown
      have HO := hid hown
      have HNe := hid (show some w1.heap.size ≠ (Value.slice A l1.length cap).ownBlock from fun hh => by have := (hown.lt _ hh.symm).1; omega)
      obtain ⟨c0, c1, c2, c3, c4⟩ := HB.out.cells5
      clear h1 h2 h4 HCh Hl g1 g2 hown hp HBx
      go_wp2_with (at_builtin; refine app_fo rfl _ _ 24 rfl V.heap.size 40 Tryd.underlying24 Tryd.info_found _ l1.length l1 rfl HO.out ⟨(s : Int), b.n, b.raw, b.z, b.body⟩ _ _ _ _ _ rfl 1 rfl (by omega) hVz ?_; intro v4 w4 hown4 hb4 hg4)
      have HB4 := Blk.grown HB.out hg4 HNe.out
      have hV4 : V.heap.size ≤ w4.heap.size := by have := hb4.size; omega
      have hbl4 : Below w1.heap.size w1 w4 := hbl.trans (hb4.mono (by omega))
      have hWl4 := hb1.trans (hbl4.mono z1)
      refine (HNx.out _ (HG.out.on hWl4)).mono ?_
      rintro e w5 ⟨rfl, hb5⟩
      have HB5 := HB4.below hb5 (by omega)
      have HBh := hid HB5
      have own5 := hid (own_on hown4 hb5)
      have hV5 : V.heap.size ≤ w5.heap.size := by have := hb5.size; omega
      have hbl5 := hbl4.trans (hb5.mono (by omega))
      obtain ⟨A5, cap5, rfl, -, -⟩ := own_fos hown4
      have HN5 := hid (show (Value.slice A5 (l1 ++ [(⟨(s : Int), b.n, b.raw, b.z, b.body⟩ : Fo)]).length cap5).ownBlock ≠ some w1.heap.size from fun hh => by have := (hown4.lt _ hh).1; omega)
      obtain ⟨e0, e1, e2, e3, e4⟩ := HB5.cells5
      have n0 := HB5.frozen 0
      have n1 := HB5.frozen 1
      have n2 := HB5.frozen 2
      have n3 := HB5.frozen 3
      have n4 := HB5.frozen 4
      have HZ := hid (show Blk (((((w5.setCell ⟨w1.heap.size, 0, none⟩ (.int .i64 (hdF l2).s)).setCell ⟨w1.heap.size, 1, none⟩ (.int .i64 (hdF l2).n)).setCell ⟨w1.heap.size, 2, none⟩ (.bool (hdF l2).raw)).setCell ⟨w1.heap.size, 3, none⟩ (.int .i64 (hdF l2).z)).setCell ⟨w1.heap.size, 4, none⟩ (.string (hdF l2).body)) w1.heap.size 40 #[.int .i64 (hdF l2).s, .int .i64 (hdF l2).n, .bool (hdF l2).raw, .int .i64 (hdF l2).z, .string (hdF l2).body] from HB5.put5 _ _ _ _ _)
      have own6 := ownsRow_setCell_other (ownsRow_setCell_other (ownsRow_setCell_other (ownsRow_setCell_other (ownsRow_setCell_other own5.out (a := ⟨w1.heap.size, 0, none⟩) HN5.out (.int .i64 (hdF l2).s)) (a := ⟨w1.heap.size, 1, none⟩) HN5.out (.int .i64 (hdF l2).n)) (a := ⟨w1.heap.size, 2, none⟩) HN5.out (.bool (hdF l2).raw)) (a := ⟨w1.heap.size, 3, none⟩) HN5.out (.int .i64 (hdF l2).z)) (a := ⟨w1.heap.size, 4, none⟩) HN5.out (.string (hdF l2).body)
      have bel6 := bel_set5 hbl5 (Nat.le_refl w1.heap.size) (.int .i64 (hdF l2).s) (.int .i64 (hdF l2).n) (.bool (hdF l2).raw) (.int .i64 (hdF l2).z) (.string (hdF l2).body)
      have hlen : (l1 ++ [(⟨(s : Int), b.n, b.raw, b.z, b.body⟩ : Fo)]).length = l1.length + 1 := by simp
      rw [hlen] at own6
      have HLen := hid hlen
      clear hlen
      clear hown4 hb4 hg4 hb5 HB4 HB5 c0 c1 c2 c3 c4 hcast
      go_wp2_with fail
      go_roundw
      case rel => exact ⟨_, l2, _, Hl2, rfl, rfl, HC4, HZ, by rw [HLen.out]; exact own6, by simpa using hV5, bel6⟩
      case measure =>
        show (if okl l2 = true then S.size + 1 - (nxt l2).toNat else 0) < (if true = true then S.size + 1 - ((s : Int) + 10 + b.body.size).toNat else 0)
        rw [if_pos (show true = true from rfl)]
        have := HMs.out
        have e : ((s : Int) + 10 + b.body.size).toNat = s + 10 + b.body.size := by omega
        rw [e]
        exact this

set_option maxHeartbeats 4000000 in
set_option maxRecDepth 100000 in
theorem walk_FnExactFindBlocks (S : ByteArray) (w : World) (h_S : S.size ≤ maxLen) {a0 : Addr} (hG : Glob0 w a0) :
    Calls Tryd.prog 4 #[.string S] w fun e w' => e = .returned (.bool true) ∧ Below w.heap.size w w' := by
  by_cases big_S : 1048576 < S.size
  · unfold maxLen at *
    go_enter Tryd.func4, Tryd.ntmps4
    go_wp2_with fail
    go_ret
    exact ⟨rfl, by (repeat (first | with_reducible (first | assumption | exact Below.refl _ _ | refine bel_alloc ?_ _ | refine bel_drew ?_ | refine bel_drewN ?_ _ | refine bel_set ?_ (by first | omega | (simp; done) | (simp; omega)) _ | refine bel_trans ?_ (by assumption)) | assumption | refine bel_trans ?_ (by assumption)))⟩
  have key : ∃ R : List Fo, R.length ≤ 1000 ∧ (∀ v, Calls Tryd.prog 8 #[.string S] v fun e w' => ∃ A cap, e = .returned (.slice A R.length cap) ∧ w'.ownsRow v.heap.size 40 5 (.slice A R.length cap) R.length (fvs R) ∧ Below v.heap.size v w') ∧ (∀ v, Glob0 v a0 → Calls Tryd.prog 9 #[.string S] v fun e w' => ∃ A cap, e = .returned (.slice A R.length cap) ∧ w'.ownsRow v.heap.size 40 5 (.slice A R.length cap) R.length (fvs R) ∧ Below v.heap.size v w') := by
    by_cases h8 : S.size ≤ 8000
    · obtain ⟨l, hl⟩ := chain_ex S.data.toList _ 0 (Nat.le_refl _)
      exact ⟨l, chain_small hl (by simpa using h8), fun v => c_sFindBlocks S _ l v h8 rfl hl, fun v hG => c_FindBlocks S _ l v a0 h8 rfl hl hG⟩
    · exact ⟨[], by simp, fun v => c_sFindBlocks_no S v (by omega) h8, fun v hG => c_FindBlocks_no S v (by omega) h8⟩
  obtain ⟨R, hn, k1, k2⟩ := key
  have HS := hid k1
  have HI := hid k2
  clear k1 k2
  have HG := hid hG
  clear hG
  go_enter Tryd.func4, Tryd.ntmps4
  go_wp2_with fail
  refine (HS.out _).mono ?_
  rintro e w1 ⟨A0, c0, rfl, own0, hb1⟩
  have z1 := hb1.size
  go_wp2_with fail
  refine (HI.out _ (HG.out.on hb1)).mono ?_
  rintro e w2 ⟨A1, c1, rfl, own1, hb2⟩
  have z2 := hb2.size
  have hB2 := hb1.trans (hb2.mono z1)
  have sep := hid (fun g (e0 : (Value.slice A0 R.length c0).ownBlock = some g) (e1 : (Value.slice A1 R.length c1).ownBlock = some g) => (absurd (own0.lt g e0).2 (by have := (own1.lt g e1).1; omega) : False))
  have own02 := own_on own0 hb2
  clear own0 hb1 hb2
  go_wp2_with fail
  refine (c_eqFoundS A1 A0 c1 c0 R _ _ _ (own_fosq own1) (own_fosq own02) (Nat.le_refl _) (Nat.le_refl _) (by omega)).mono ?_
  rintro e w3 ⟨rfl, hb3⟩
  have z3 := hb3.size
  have hB3 := hB2.trans (hb3.mono (by omega))
  have own03 := own_on own02 hb3
  have own13 := own_on own1 hb3
  clear hB2 own02 own1 hb3
  go_wp2_with fail
  refine (c_markFoundS_any R _ c1 A1 _ own13 hn).mono ?_
  rintro e w4 ⟨rfl, own14, hg4⟩
  have hB4 := hB3.trans (below_of_grown hg4 hB3.size (fun g e => by have := (own13.lt g e).1; omega))
  have z4 := hg4.size
  have own04 := own_grownR own03 hg4 (fun g e0 e1 => sep.out g e0 e1)
  clear hB3 own03 own13 hg4
  go_wp2_with fail
  refine (c_heldFoundS _ A1 c1 R.length _ (own_fosq own14) (Nat.le_refl _) hn).mono ?_
  rintro e w5 ⟨rfl, hb5⟩
  have hB5 := hB4.trans (hb5.mono (by omega))
  have z5 := hb5.size
  have own05 := own_on own04 hb5
  have own15 := own_on own14 hb5
  clear hB4 own04 own14 hb5
  go_wp2_with fail
  refine (HI.out _ (HG.out.on hB5)).mono ?_
  rintro e w6 ⟨A2, c2, rfl, own2, hb6⟩
  have z6 := hb6.size
  have hB6 := hB5.trans (hb6.mono (by omega))
  have own06 := own_on own05 hb6
  have own16 := own_on own15 hb6
  clear hB5 own05 own15 hb6
  go_wp2_with fail
  refine (c_eqFoundS A2 A0 c2 c0 R _ _ _ (own_fosq own2) (own_fosq own06) (Nat.le_refl _) (Nat.le_refl _) (by omega)).mono ?_
  rintro e w7 ⟨rfl, hb7⟩
  have hB7 := hB6.trans (hb7.mono (by omega))
  have own17 := own_on own16 hb7
  clear hB6 own06 own16 own2 hb7
  go_wp2_with fail
  refine (c_heldFoundS _ A1 c1 R.length _ (own_fosq own17) (Nat.le_refl _) hn).mono ?_
  rintro e w8 ⟨rfl, hb8⟩
  have z7 := hB7.size
  have hB8 := hB7.trans (hb8.mono (by omega))
  go_wp2_with fail
  go_ret
  exact ⟨rfl, hB8⟩
end Go.Proofs.YtepbjmpbcobfpaaDoor
