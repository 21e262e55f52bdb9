/- A container's bytes in the program, and the result of an edit in the model. The layout of the header and the errors are as the program's text lays them. -/
import Derived.Test.YtkglpbaapekgnaaDoorTj
namespace Go.Proofs.YtkglpbaapekgnaaDoor
open Go.ChangeShapes Go.WideShapes Go.ChangeAt Go.RowKit Go.Joins
set_option linter.unusedVariables false
set_option linter.unusedSimpArgs false

/-- blocks numbered anew -/
def rn : Nat → List Bl → List Bl
  | _, [] => []
  | f, b :: l => ⟨(f : Int), b.raw, b.z, b.body⟩ :: rn (f + 1) l
theorem rn_len (f : Nat) (l : List Bl) : (rn f l).length = l.length := by
  induction l generalizing f with
  | nil => rfl
  | cons b l ih => simp [rn, ih]
theorem rn_app (f : Nat) (l r : List Bl) : rn f (l ++ r) = rn f l ++ rn (f + l.length) r := by
  induction l generalizing f with
  | nil => simp [rn]
  | cons b l ih => simp [rn, ih, Nat.add_assoc, Nat.add_comm 1]
theorem rn_take_succ (l : List Bl) (k : Nat) (h : k < l.length) : rn 0 (l.take (k + 1)) = rn 0 (l.take k) ++ [⟨(k : Int), l[k].raw, l[k].z, l[k].body⟩] := by
  rw [List.take_succ_eq_append_getElem h, rn_app]
  simp [rn, Nat.min_eq_left (Nat.le_of_lt h)]
theorem rn_zs (f : Nat) (l : List Bl) : zs (rn f l) = zs l := by
  induction l generalizing f with
  | nil => rfl
  | cons b l ih => simp [rn, zs, ih]
theorem Bl.ok_num {b : Bl} (h : b.ok) (k : Nat) (hk : k ≤ 39) : (⟨(k : Int), b.raw, b.z, b.body⟩ : Bl).ok :=
  ⟨⟨by simp, by simp; omega⟩, h.2⟩
theorem rn_ok (l : List Bl) (hn : l.length ≤ 40) (hok : ∀ b ∈ l, b.ok) : ∀ b ∈ rn 0 l, b.ok := by
  have key : ∀ (l : List Bl) (f : Nat), f + l.length ≤ 40 → (∀ b ∈ l, b.ok) → ∀ b ∈ rn f l, b.ok := by
    intro l
    induction l with
    | nil => intro f _ _ b hb; simp [rn] at hb
    | cons c l ih =>
      intro f hf hc b hb
      simp only [rn, List.mem_cons] at hb
      rcases hb with rfl | hb
      · exact Bl.ok_num (hc c (by simp)) f (by simp at hf; omega)
      · exact ih (f + 1) (by simp at hf; omega) (fun b hb => hc b (by simp [hb])) b hb
  exact key l 0 (by omega) hok
theorem txt_small (l : List Bl) (hok : ∀ b ∈ l, b.ok) : (txt l).length ≤ 74 * l.length := by
  induction l with
  | nil => simp [txt]
  | cons b l ih =>
    have h1 := ih (fun c hc => hok c (by simp [hc]))
    have h2 := (b.len (hok b (by simp))).2
    have h3 := b.text_len
    have h4 : txt (b :: l) = b.text ++ txt l := by simp [txt]
    rw [h4, List.length_append, List.length_cons]
    omega
theorem zs_le (l : List Bl) (hz : ∀ b ∈ l, 1 ≤ b.z ∧ b.z ≤ 64) : zs l ≤ 64 * l.length := by
  induction l with
  | nil => simp [zs]
  | cons b l ih =>
    have h1 := ih (fun c hc => hz c (by simp [hc]))
    have h2 := hz b (by simp)
    simp only [zs, List.length_cons]
    omega

theorem app_str8 {P : Program} {w : World} {ops : Array Oper} {rest : List Oper} {o : Oper} {a : Act} {Q : Exit → Act → World → Prop} (hgd : o.guard = none) (sl x : Operand) (t u : TypeId)
    (ho : o.op = .call { callee := .builtin .append, args := #[sl, x], argTypes := #[t, u] }) (B : Nat) (e : TypeId) (ht : P.underlying t = some (.slice e)) (hu : P.underlying u = some .string)
    (hinfo : (P.info? e).map (fun i => (i.zero, i.size, i.bytes)) = some (some (.int .u8 0), 1, 1)) (v : Value) (n : Nat) (l : List UInt8) (hs : a.eval sl = v) (hown : w.ownsRow B e 1 v n (l.map vb)) (s : ByteArray) (hx : a.eval x = .string s)
    (hn : n + s.size ≤ 100000000000) (hB : B ≤ w.heap.size)
    (h : ∀ v' w', w'.ownsRow B e 1 v' (n + s.size) ((l ++ s.data.toList).map vb) → Below B w w' → w.grownBy w' v.ownBlock → wpList P ops Q rest (a.put o.dst v') w') : wpList P ops Q (o :: rest) a w := by
  refine wpList_plain hgd fun K hK => ?_
  obtain ⟨i0, hi, hz0, hz1, hz2⟩ := info_parts hinfo
  obtain ⟨v', w', hr, hown', hg, _⟩ := Lib.run_append_own_string (P := P) w B t u o.type e i0 ht hu hi hz0 hz1 hz2 v n (l.map vb) hown s (by unfold maxLen; omega) (by omega) hB
  unfold Oper.wp execOp
  simp only [ho, resolve, invoke, builtin, Sem.run_bind, Sem.run_pure, Result.andThen_ok, List.map_toArray, List.map_cons, List.map_nil, hs, hx, hr]
  exact hK _ _ (h v' w' (by rw [List.map_append]; exact hown') (below_of_grown hg hB (fun g hg => (hown.lt g hg).1)) hg)

set_option maxHeartbeats 4000000 in
set_option maxRecDepth 100000 in
theorem c_containerBytes (A : Option Addr) (cap : Nat) (l : List Bl) (L : Nat) (w : World) (h : BlsAt w L A cap l) (hL : L ≤ w.heap.size) (hn : l.length ≤ 40) (hok : ∀ b ∈ l, b.ok) (hLy : Lay w) : Calls Tryd.prog 69 #[.slice A l.length cap] w fun e w' => e = .returned (.string (str (txt l))) ∧ Below w.heap.size w w' := by
  obtain ⟨N, hN⟩ : ∃ N, N = l.length := ⟨_, rfl⟩
  have HN := hid hN
  have HOK := hid hok
  have HLy := hid hLy
  have HH := hid h
  rw [← hN] at hn ⊢
  clear hN hok hLy h
  go_enter Tryd.func69, Tryd.ntmps69
  go_wp2_with fail
  go_loopw [3, 8] (fun v i wr => ∃ (k : Nat), k ≤ N ∧ i = .int .i64 k ∧ wr.ownsRow w.heap.size 5 1 v (txt (l.take k)).length ((txt (l.take k)).map vb) ∧ (txt (l.take k)).length ≤ 74 * k ∧ Below w.heap.size w wr) (fun _ i _ => N - (intOf i).toNat)
  case atStart => exact ⟨0, Nat.zero_le _, rfl, own_nil _ _ _, by simp [txt], by (repeat (first | with_reducible (first | assumption | exact Below.refl _ _ | refine bel_alloc ?_ _ | refine bel_drew ?_ | refine bel_drewN ?_ _ | refine bel_set ?_ (by first | omega | (simp; done) | (simp; omega)) _ | refine bel_trans ?_ (by assumption)) | assumption | refine bel_trans ?_ (by assumption)))⟩
  case round =>
    obtain ⟨k, hk, rfl, hown, hlen, hbl⟩ := hrel
    by_cases hlt : k < N
    · have hlt2 : k < l.length := by have := HN.out; omega
      obtain ⟨b, off, rfl, hb0, hc0, hc1, hc2, hc3⟩ := bl_at (HH.out.below hbl hL) k hlt2
      have hpo := HOK.out _ (List.getElem_mem hlt2)
      have HT := hid (show txt (l.take (k + 1)) = txt (l.take k) ++ l[k].text by rw [List.take_succ_eq_append_getElem hlt2, txt_snoc])
      obtain ⟨p, hp⟩ : ∃ p, p = l[k] := ⟨_, rfl⟩
      rw [← hp] at hc0 hc1 hc2 hc3 hpo HT
      clear hp hlt2
      have hl2 := (p.len hpo).2
      have hl3 := p.text_len
      have HC := hid (fun (v : World) (hv : Lay v) => c_blockBytes p v hpo hv)
      obtain ⟨X, hX⟩ : ∃ X, X = str p.text := ⟨_, rfl⟩
      rw [← hX] at HC
      have zX : X.size ≤ 74 := by rw [hX, str_size]; omega
      have HX := hid (show X.data.toList = p.text by rw [hX]; exact str_list _)
      clear hX
      obtain ⟨p0, p1, p2, p3⟩ := p
      simp only at hc0 hc1 hc2 hc3 HC
      clear hpo hl2 hl3
      have hO := hid hown
      have hz := hbl.size
      have hRB := Blk.new wr 27 #[.int .i64 0, .bool false, .int .i64 0, .string ByteArray.empty]
      obtain ⟨s0, s1, s2, s3⟩ := hRB.cells4y
      have f0 := hRB.frozen 0
      have f1 := hRB.frozen 1
      have f2 := hRB.frozen 2
      have f3 := hRB.frozen 3
      clear hRB hown
      go_wp2_with fail
      have hb1 : Below wr.heap.size wr (wr.alloc (.cells #[.int .i64 p0, .bool p1, .int .i64 p2, .string p3] 27)) := bel_alloc (Below.refl _ wr) _
      refine (HC.out _ (HLy.out.on (hbl.trans (hb1.mono hz)))).mono ?_
      rintro e w2 ⟨rfl, hb2⟩
      have hb12 := hb1.trans (hb2.mono hb1.size)
      have hbl2 := hbl.trans (hb12.mono hz)
      have hz2 := hbl2.size
      have HO2 := hid (own_on hO.out hb12)
      clear hb1 hb2 s0 s1 s2 s3 f0 f1 f2 f3 hc0 hc1 hc2 hc3
      go_wp2_with (at_builtin; refine app_str8 rfl _ _ 84 9 rfl w.heap.size 5 Tryd.underlying84 Tryd.underlying9 Tryd.info_u8y _ (txt (l.take k)).length (txt (l.take k)) rfl HO2.out X rfl (by omega) hz2 ?_; intro v4 w4 hown4 hb4 hg4)
      rw [HX.out, ← HT.out] at hown4
      have hln : (txt (l.take k)).length + X.size = (txt (l.take (k + 1))).length := by
        rw [HT.out, List.length_append, ← HX.out]; rfl
      rw [hln] at hown4
      go_roundw
      case rel => exact ⟨k + 1, by omega, by go_num, hown4, by omega, hbl2.trans hb4⟩
      case measure => simp [intOf]; omega
    · have hkN : k = N := by omega
      have HE := hid (show txt (l.take k) = txt l by rw [List.take_of_length_le (by have := HN.out; omega)])
      rw [HE.out] at hown
      have hrs := run_str (P := Tryd.prog) Tryd.underlying84 Tryd.underlying5 Tryd.underlying9 hown
      clear hkN hlen
      go_wp2_with fail
      go_ret
      exact ⟨rfl, hbl⟩

set_option maxHeartbeats 4000000 in
set_option maxRecDepth 100000 in
theorem c_l6Texts (A : Option Addr) (cap : Nat) (l : List Bl) (L : Nat) (w : World) (h : BlsAt w L A cap l) (hL : L ≤ w.heap.size) (hn : l.length ≤ 40) (hok : ∀ b ∈ l, b.ok) : Calls Tryd.prog 83 #[.slice A l.length cap, .int .i64 0] w fun e w' => e = .returned (.string (str (txt (rn 0 l)))) ∧ Below w.heap.size w w' := by
  obtain ⟨N, hN⟩ : ∃ N, N = l.length := ⟨_, rfl⟩
  have HN := hid hN
  have HOK := hid hok
  have HH := hid h
  rw [← hN] at hn ⊢
  clear hN hok h
  go_enter Tryd.func83, Tryd.ntmps83
  go_wp2_with fail
  go_loopw [5, 6] (fun v i wr => ∃ (k : Nat) (T : ByteArray), k ≤ N ∧ i = .int .i64 k ∧ v = .string T ∧ Hid (T = str (txt (rn 0 (l.take k)))) ∧ T.size ≤ 74 * k ∧ Below w.heap.size w wr) (fun _ i _ => N - (intOf i).toNat)
  case atStart => exact ⟨0, ByteArray.empty, Nat.zero_le _, rfl, rfl, hid rfl, by simp, by (repeat (first | with_reducible (first | assumption | exact Below.refl _ _ | refine bel_alloc ?_ _ | refine bel_drew ?_ | refine bel_drewN ?_ _ | refine bel_set ?_ (by first | omega | (simp; done) | (simp; omega)) _ | refine bel_trans ?_ (by assumption)) | assumption | refine bel_trans ?_ (by assumption)))⟩
  case round =>
    obtain ⟨k, T, hk, rfl, rfl, HT, hsz, hbl⟩ := hrel
    by_cases hlt : k < N
    · have hlt2 : k < l.length := by have := HN.out; omega
      obtain ⟨b, off, rfl, hb0, hc0, hc1, hc2, hc3⟩ := bl_at (HH.out.below hbl hL) k hlt2
      have hpo := Bl.ok_num (HOK.out _ (List.getElem_mem hlt2)) k (by omega)
      have HX := hid (show txt (rn 0 (l.take (k + 1))) = txt (rn 0 (l.take k)) ++ (⟨(k : Int), l[k].raw, l[k].z, l[k].body⟩ : Bl).text by rw [rn_take_succ l k hlt2, txt_snoc])
      obtain ⟨p, hp⟩ : ∃ p, p = l[k] := ⟨_, rfl⟩
      rw [← hp] at hc0 hc1 hc2 hc3 hpo HX
      clear hp hlt2
      have hl2 := (Bl.len _ hpo).2
      have hl3 := (⟨(k : Int), p.raw, p.z, p.body⟩ : Bl).text_len
      have HC := hid (fun (v : World) => c_l5Text ⟨(k : Int), p.raw, p.z, p.body⟩ v hpo)
      obtain ⟨X, hX⟩ : ∃ X, X = str (⟨(k : Int), p.raw, p.z, p.body⟩ : Bl).text := ⟨_, rfl⟩
      rw [← hX] at HC
      simp only at hl2 hl3
      have zX : X.size ≤ 74 := by rw [hX, str_size]; omega
      have HT2 := hid (show T ++ X = str (txt (rn 0 (l.take (k + 1)))) by rw [HT.out, hX, HX.out, str_append])
      clear hX HX
      obtain ⟨p0, p1, p2, p3⟩ := p
      simp only at hc0 hc1 hc2 hc3 HC
      clear hpo hl2 hl3
      have hz := hbl.size
      have hRB := Blk.new wr 27 #[.int .i64 0, .bool false, .int .i64 0, .string ByteArray.empty]
      obtain ⟨s0, s1, s2, s3⟩ := hRB.cells4y
      have f0 := hRB.frozen 0
      have f1 := hRB.frozen 1
      have f2 := hRB.frozen 2
      have f3 := hRB.frozen 3
      clear hRB
      go_wp2_with fail
      have hb1 : Below wr.heap.size wr (wr.alloc (.cells #[.int .i64 (k : Int), .bool p1, .int .i64 p2, .string p3] 27)) := bel_alloc (Below.refl _ wr) _
      refine (HC.out _).mono ?_
      rintro e w2 ⟨rfl, hb2⟩
      have hbl2 := hbl.trans ((hb1.trans (hb2.mono hb1.size)).mono hz)
      clear hb1 hb2 s0 s1 s2 s3 f0 f1 f2 f3 hc0 hc1 hc2 hc3
      go_wp2_with fail
      go_roundw
      case rel => exact ⟨k + 1, T ++ X, by omega, by go_num, rfl, HT2, by rw [ByteArray.size_append]; omega, hbl2⟩
      case measure => simp [intOf]; omega
    · have HE := hid (show T = str (txt (rn 0 l)) by rw [HT.out, List.take_of_length_le (by have := HN.out; omega)])
      clear HT
      go_wp2_with fail
      go_ret
      exact ⟨by rw [HE.out]; rfl, hbl⟩

theorem c_l6Fits (A : Option Addr) (cap : Nat) (l : List Bl) (L : Nat) (w : World) (h : BlsAt w L A cap l) (hn : l.length ≤ 1000) (hz : ∀ b ∈ l, 1 ≤ b.z ∧ b.z ≤ 64) : Calls Tryd.prog 82 #[.slice A l.length cap] w fun e w' => e = .returned (.bool (decide (l.length ≤ 40 ∧ zs l ≤ 2000))) ∧ Below w.heap.size w w' := by
  by_cases h40 : l.length ≤ 40
  · have HC := hid (c_l5Size A cap l L w h h40 hz)
    have hzl := zs_le l hz
    obtain ⟨Z, hZ⟩ : ∃ Z, Z = zs l := ⟨_, rfl⟩
    have HV := hid (show decide (l.length ≤ 40 ∧ zs l ≤ 2000) = decide ((Z : Int) ≤ 2000) by
      rw [hZ]
      by_cases h2 : zs l ≤ 2000
      · rw [decide_eq_true ⟨h40, h2⟩, decide_eq_true (by omega)]
      · rw [decide_eq_false (fun hh => h2 hh.2), decide_eq_false (by omega)])
    rw [HV.out]
    rw [← hZ] at HC hzl
    clear hZ HV
    obtain ⟨N, hN⟩ : ∃ N, N = l.length := ⟨_, rfl⟩
    rw [← hN] at h40 hzl HC ⊢
    clear hN h hn hz
    go_enter Tryd.func82, Tryd.ntmps82
    go_wp2_with fail
    refine (HC.out).mono ?_
    rintro e w' ⟨rfl, rfl⟩
    go_wp2_with fail
    go_ret
    exact ⟨rfl, Below.refl _ _⟩
  · have HV := hid (show decide (l.length ≤ 40 ∧ zs l ≤ 2000) = false from decide_eq_false (fun hh => h40 hh.1))
    rw [HV.out]
    obtain ⟨N, hN⟩ : ∃ N, N = l.length := ⟨_, rfl⟩
    rw [← hN] at h40 hn ⊢
    clear hN HV h hz
    have hd : decide ((N : Int) ≤ 40) = false := decide_eq_false (by omega)
    have hd2 : decide (N ≤ 40) = false := decide_eq_false (by omega)
    go_enter Tryd.func82, Tryd.ntmps82
    go_wp2_with fail
    go_ret
    exact ⟨rfl, Below.refl _ _⟩

/-- what an edit's blocks make -/
def edS (l : List Bl) : ByteArray := if l.length ≤ 40 ∧ zs l ≤ 2000 then str (txt (rn 0 l)) else ByteArray.empty
def edO (l : List Bl) : Bool := decide (l.length ≤ 40 ∧ zs l ≤ 2000)
theorem c_l6Result (A : Option Addr) (cap : Nat) (l : List Bl) (L : Nat) (w : World) (h : BlsAt w L A cap l) (hL : L ≤ w.heap.size) (hn : l.length ≤ 1000) (hok : ∀ b ∈ l, b.ok) : Calls Tryd.prog 57 #[.slice A l.length cap] w fun e w' => e = .returned (.tuple #[.string (edS l), .bool (edO l)]) ∧ Below w.heap.size w w' := by
  have HF := hid (c_l6Fits A cap l L w h hn (fun b hb => (hok b hb).2.1))
  by_cases hf : l.length ≤ 40 ∧ zs l ≤ 2000
  · have HT := hid (fun (v : World) (hb : Below w.heap.size w v) => c_l6Texts A cap l L v (h.below hb hL) (Nat.le_trans hL hb.size) hf.1 hok)
    rw [decide_eq_true hf] at HF
    rw [edS, edO, if_pos hf, decide_eq_true hf]
    clear h hok hn hf
    go_enter Tryd.func57, Tryd.ntmps57
    go_wp2_with fail
    refine (HF.out).mono ?_
    rintro e w1 ⟨rfl, hb1⟩
    go_wp2_with fail
    refine (HT.out _ hb1).mono ?_
    rintro e w2 ⟨rfl, hb2⟩
    go_wp2_with fail
    go_ret2
    exact ⟨rfl, hb1.trans (hb2.mono hb1.size)⟩
  · rw [decide_eq_false hf] at HF
    rw [edS, edO, if_neg hf, decide_eq_false hf]
    clear h hok hn hf
    go_enter Tryd.func57, Tryd.ntmps57
    go_wp2_with fail
    refine (HF.out).mono ?_
    rintro e w1 ⟨rfl, hb1⟩
    go_wp2_with fail
    go_ret2
    exact ⟨rfl, hb1⟩
end Go.Proofs.YtkglpbaapekgnaaDoor
