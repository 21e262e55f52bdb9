/- ParseParity in both programs. -/
import Derived.Test.YtcliagnongbkmaaDoorLv
import Derived.Test.YtcliagnongbkmaaDoorZf
import Derived.Test.YtcliagnongbkmaaDoorMb
import Derived.Laws.AppendOwnNone
namespace Go.Proofs.YtcliagnongbkmaaDoor
open Go.ChangeShapes Go.WideShapes Go.ChangeAt Go.RowKit Go.Joins
set_option linter.unusedVariables false
set_option linter.unusedSimpArgs false

theorem append_where {P : Program} (w : World) (B : Nat) (t ty e : TypeId) (i : TypeInfo) (ht : P.underlying t = some (.slice e)) (hi : P.info? e = some i) (hz : i.zero = some (.string ByteArray.empty)) (h1 : i.size = 1) (h2 : i.bytes = 16)
    (v : Value) (n : Nat) (l : List ByteArray) (hown : w.ownsRow B e 1 v n (l.map sv)) (ad : Addr) (c : Nat) (x : ByteArray) (hx : w.cell? ad = some (.string x)) (hn : n ≤ 1000000000000) (v' : Value) (w' : World)
    (hr : (Builtin.append_ #[t, t] ty #[v, .slice (some ad) 1 c]).run P w = .ok v' w') : v'.ownBlock = v.ownBlock ∨ v'.ownBlock = some w.heap.size := by
  have hnews : ∀ j u, [Value.string x][j]? = some u → w.cell? (ad.add j) = some u := by
    intro j u hj
    match j, hj with
    | 0, hj => simp at hj; subst hj; rw [show ad.add 0 = ad by simp [Addr.add]]; exact hx
  rcases hown.2 with ⟨rfl, rfl⟩ | ⟨g, cap, cur, rfl, hbg, hg, hnc, hcm, hcs, htk⟩
  · have h := run_append_nil (P := P) w t ty e i (.string ByteArray.empty) ht hi hz ad 1 c [.string x] (by rw [h1]; rfl) hnews (by omega) (by omega) (by omega)
    rw [h] at hr
    cases hr
    exact .inr rfl
  · by_cases hroom : n + 1 ≤ cap
    · have h := run_append_room (P := P) w t ty e i ht hi g n cap cur hg ad 1 c [.string x] (by rw [h1]; rfl) hnews (by intro u hu; simp at hu; subst hu; rfl) hroom (by rw [h1]; simp; omega)
      rw [h] at hr
      cases hr
      exact .inl rfl
    · have h := run_append_grow (P := P) w t ty e i (.string ByteArray.empty) ht hi hz ⟨g, 0, none⟩ n cap (l.map sv) (by rw [h1]; simpa using hown.1) (hown.cells (g := g) rfl) ad 1 c [.string x] (by rw [h1]; rfl) hnews (by omega) (by omega) (growslice_fits (by omega) (by rw [h2]; omega))
      rw [h] at hr
      cases hr
      exact .inr rfl

/-- 'out = append(out, x)' of one string, and where it lies then: ONE goal is left. -/
theorem app_txt2 {P : Program} {w : World} {ops : Array Oper} {rest : List Oper} {o : Oper} {a : Act} {Q : Exit → Act → World → Prop} (hgd : o.guard = none) (s x : Operand) (t : TypeId)
    (ho : o.op = .call { callee := .builtin .append, args := #[s, x], argTypes := #[t, t] }) (B : Nat) (e : TypeId) (ht : P.underlying t = some (.slice e))
    (hinfo : (P.info? e).map (fun i => (i.zero, i.size, i.bytes)) = some (some (.string ByteArray.empty), 1, 16)) (v : Value) (n : Nat) (l : List ByteArray) (hs : a.eval s = v) (hown : w.ownsRow B e 1 v n (l.map sv)) (X : ByteArray) (cp : Nat)
    (hx : a.eval x = .slice (some ⟨w.heap.size, 0, none⟩) 1 cp) (hn : n ≤ 1000000000) (hB : B ≤ w.heap.size)
    (h : ∀ v' w', w'.ownsRow B e 1 v' (n + 1) ((l ++ [X]).map sv) → Below B w w' → w.grownBy w' v.ownBlock → (v'.ownBlock = v.ownBlock ∨ v'.ownBlock = some (w.heap.size + 1)) → wpList P ops Q rest (a.put o.dst v') w') : wpList P ops Q (o :: rest) a (w.alloc (.cells #[.string X] e)) := by
  obtain ⟨i0, hi, hz0, hz1, hz2⟩ := info_parts hinfo
  obtain ⟨v', w', hr, hown', hg, _⟩ := run_append_own (P := P) (w.alloc (.cells #[.string X] e)) B t o.type e i0 (.string ByteArray.empty) 1 16 ht hi hz0 hz1 hz2 rfl (by decide) v n (l.map sv) (hown.alloc _) ⟨w.heap.size, 0, none⟩ 1 cp [.string X] rfl (one_new w _ e) (by intro u hu; simp at hu; subst hu; rfl) (by unfold maxLen; omega) (by omega) (by have := World.size_alloc w (.cells #[.string X] e); omega)
  have hwh := append_where (P := P) (w.alloc (.cells #[.string X] e)) B t o.type e i0 ht hi hz0 hz1 hz2 v n l (hown.alloc _) ⟨w.heap.size, 0, none⟩ cp X (by have := one_new w (.string X) e 0 _ rfl; rw [show (⟨w.heap.size, 0, none⟩ : Addr).add 0 = ⟨w.heap.size, 0, none⟩ by simp [Addr.add]] at this; exact this) (by omega) v' w' hr
  have hg2 : w.grownBy w' v.ownBlock := grown_trans (World.grownBy_alloc w _ _) hg
  refine Lib.wpList_append_run _ hgd s x t t ho v _ hs hx v' w' hr ?_
  refine h v' w' ?_ (below_of_grown hg2 hB (fun g hg => (hown.lt g hg).1)) hg2 (by simpa using hwh)
  rw [List.map_append]; exact hown'

def fpTx (l : List ByteArray) : ByteArray := dash (str (jn l l.length))
theorem fpV_yes {l : List ByteArray} (h : parOk l) : fpV l = fpTx l := if_pos h
theorem fpTx_ne (l : List ByteArray) : ¬ fpTx l = ByteArray.empty := by
  intro e
  unfold fpTx dash at e
  split at e
  · exact absurd (congrArg (fun x : ByteArray => x.size) e) (by decide)
  · rename_i h
    exact h (by rw [e]; rfl)
theorem hx_no (s : ByteArray) : ∀ x ∈ (str (hx s)).data.toList, x ≠ (32 : UInt8) := by
  intro x hx1 e
  rw [str_list] at hx1
  have := fmtHex_ge _ x hx1
  subst e
  exact absurd this (by decide)
theorem hx_ne {s : ByteArray} (h : 2 ≤ s.size ∧ s.size ≤ 76) : 4 ≤ (hx s).length := by
  have hl : s.data.toList.length = s.size := by simp
  rw [hx, M.fmtHex, if_pos (by omega), M.hex_length]; omega
theorem fp_list {l : List ByteArray} (h0 : 0 < l.length) (hp : parOk l) : (fpTx l).data.toList = joinL 32 ((hxs l).map (·.data.toList)) := by
  have e1 : jn l l.length = joinL 32 ((hxs l).map (·.data.toList)) := by
    rw [jn_join l l.length (Nat.le_refl _), joinL_eq, List.take_of_length_le (by rw [hxs_len]; exact Nat.le_refl _)]
  have hz : ¬ (str (jn l l.length)).size = 0 := by
    rw [str_size, e1]
    cases l with
    | nil => simp at h0
    | cons a r =>
      have h4 := hx_ne (hp.2 a (by simp))
      have h5 : 4 ≤ (str (hx a)).data.toList.length := by rw [str_list]; exact h4
      cases r with
      | nil => simp only [hxs, List.map_cons, List.map_nil, joinL]; omega
      | cons b q => simp only [hxs, List.map_cons, joinL, List.length_append]; omega
  rw [fpTx, dash, if_neg hz, str_list, e1]
theorem hxs_no (l : List ByteArray) : ∀ f ∈ hxs l, ∀ x ∈ f.data.toList, x ≠ (32 : UInt8) := by
  intro f hf
  obtain ⟨s, _, rfl⟩ := List.mem_map.1 hf
  exact hx_no s
/-- the fields of the text, if the text is a row of parities and no dash -/
def PPl2 (T : ByteArray) (l : List ByteArray) : Prop := ∀ q, 0 < q.length → parOk q → fpTx q = T → l = hxs q
theorem ppl2_cut {T : ByteArray} {l : List ByteArray} (h : CutAs 32 41 T l) : PPl2 T l := fun q h0 hp hT =>
  h (hxs q) (map_ne h0) (by rw [hxs_len]; have := hp.1; omega) (hxs_no q) (by rw [← hT]; exact fp_list h0 hp)
theorem ppl2_cutL {T : ByteArray} {l : List ByteArray} (h : l.map (·.data.toList) = cutL 32 T.data.toList) : PPl2 T l := fun q h0 hp hT => by
  refine bytes_back ?_
  rw [h, ← hT, fp_list h0 hp]
  refine cutL_join 32 _ (map_ne (by rw [hxs_len]; exact h0)) ?_
  intro g hg x hx1
  obtain ⟨y, hy, rfl⟩ := List.mem_map.1 hg
  exact hxs_no q y hy x hx1
/-- a text read from its digits -/
def HxOf (x s : ByteArray) : Prop := s.size ≤ 4000 ∧ ∀ d : ByteArray, d.size ≤ 4000 → x = str (hx d) → s = d
theorem parse_hx {d : ByteArray} (hd : d.size ≤ 4000) : M.parseHex (str (hx d)).data.toList = some d.data.toList := by
  have hl : d.data.toList.length ≤ 4000 := by simpa using hd
  rw [str_list, hx, M.fmtHex, if_pos hl, M.parseHex, if_pos (by rw [M.hex_length]; omega), M.unhex_hex]
theorem hx_of {x : ByteArray} {e : Ending} (h : PH x e) : ∃ (D : ByteArray) (b : Bool), e = .returned (.tuple #[.string D, .bool b]) ∧ HxOf x D := by
  rcases h with ⟨h1, rfl⟩ | ⟨d, h1, rfl⟩
  · refine ⟨_, _, rfl, Nat.zero_le _, fun d hd hx => ?_⟩
    rw [hx, parse_hx hd] at h1
    cases h1
  · have hl : d.length ≤ 4000 := by
      unfold M.parseHex at h1
      split at h1
      · have := M.unhex_length _ _ h1; omega
      · cases h1
    refine ⟨_, _, rfl, by rw [str_size]; exact hl, fun d2 hd hx => ?_⟩
    rw [hx, parse_hx hd] at h1
    injection h1 with h1
    rw [← h1, str_self]
/-- the texts read so far -/
def HxsOf (l q : List ByteArray) : Prop := q.length ≤ l.length ∧ ∀ i p, q[i]? = some p → HxOf (l.getD i ⟨#[]⟩) p
theorem HxsOf.snoc {l q : List ByteArray} (h : HxsOf l q) (hl : q.length < l.length) (p : ByteArray) (hp : HxOf l[q.length] p) : HxsOf l (q ++ [p]) := by
  refine ⟨by simp; omega, fun i u hu => ?_⟩
  by_cases hi : i < q.length
  · rw [List.getElem?_append_left hi] at hu
    exact h.2 i u hu
  · rw [List.getElem?_append_right (by omega)] at hu
    have : i = q.length := by
      have := (List.getElem?_eq_some_iff.1 hu).1
      simp at this; omega
    subst this
    simp at hu
    subst hu
    rw [List.getD_eq_getElem?_getD, List.getElem?_eq_getElem hl]
    exact hp
theorem HxsOf.small {l q : List ByteArray} (h : HxsOf l q) : ∀ s ∈ q, s.size ≤ 1048576 := fun s hs => by
  obtain ⟨i, hi⟩ := List.mem_iff_getElem?.1 hs
  have := (h.2 i s hi).1
  omega
theorem hxs_one {l q p : List ByteArray} (hl : l = hxs p) (hp : parOk p) (h : HxsOf l q) (hq : q.length = l.length) : q = p := by
  have hlen : p.length = q.length := by rw [hq, hl, hxs_len]
  apply List.ext_getElem (by omega)
  intro i h1 h2
  have h3 := h.2 i q[i] (List.getElem?_eq_getElem h1)
  have hb := hp.2 p[i] (List.getElem_mem _)
  refine h3.2 p[i] (by omega) ?_
  rw [hl, List.getD_eq_getElem?_getD, hxs, List.getElem?_map, List.getElem?_eq_getElem h2]
  rfl
/-- what ParseParity returns -/
def PPy (T : ByteArray) (q : List ByteArray) (b : Bool) : Prop := (b = true ∧ parOk q ∧ fpTx q = T) ∨ (b = false ∧ q = [] ∧ ∀ p, parOk p → fpTx p = T → False)
theorem par_nil : parOk [] := ⟨by simp, fun s h => by simp at h⟩
theorem fpTx_nil : fpTx [] = str [45] := rfl
theorem fp_dash {q : List ByteArray} (hp : parOk q) (h : fpTx q = str [45]) : q = [] := by
  cases q with
  | nil => rfl
  | cons a r =>
    have e := fp_list (by simp) hp
    rw [h, str_list] at e
    have h4 := hx_ne (hp.2 a (by simp))
    have h5 : 4 ≤ (str (hx a)).data.toList.length := by rw [str_list]; exact h4
    have e2 := congrArg List.length e
    cases r with
    | nil => simp only [hxs, List.map_cons, List.map_nil, joinL, List.length_singleton] at e2; omega
    | cons b q => simp only [hxs, List.map_cons, joinL, List.length_append, List.length_cons, List.length_nil] at e2; omega
theorem ppy_dash : PPy (str [45]) [] true := .inl ⟨rfl, par_nil, fpTx_nil⟩
theorem ppy_empty : PPy ByteArray.empty [] false := .inr ⟨rfl, rfl, fun p _ h => fpTx_ne p h⟩
theorem pos_of_dash {T : ByteArray} {q : List ByteArray} (hd : ¬ T = str [45]) (hT : fpTx q = T) : 0 < q.length := by
  cases q with
  | nil => exact absurd (hT.symm.trans fpTx_nil) hd
  | cons a r => simp
theorem ppy_one {T : ByteArray} {p q : List ByteArray} {b c : Bool} (h : PPy T p b) (h2 : PPy T q c) : p = q ∧ b = c := by
  rcases h with ⟨rfl, hp, hT⟩ | ⟨rfl, rfl, hn⟩
  · rcases h2 with ⟨rfl, hq, hT2⟩ | ⟨rfl, rfl, hn2⟩
    · refine ⟨?_, rfl⟩
      by_cases hd : T = str [45]
      · subst hd
        rw [fp_dash hp hT, fp_dash hq hT2]
      · have h0 := pos_of_dash hd hT
        have h1 := pos_of_dash hd hT2
        have e1 := fp_list h0 hp
        have e2 := fp_list h1 hq
        rw [hT, ← hT2, e2] at e1
        have cc : ∀ u : List ByteArray, 0 < u.length → cutL 32 (joinL 32 ((hxs u).map (·.data.toList))) = (hxs u).map (·.data.toList) := fun u hu => by
          refine cutL_join 32 _ (map_ne (by rw [hxs_len]; exact hu)) ?_
          intro g hg x hx1
          obtain ⟨y, hy, rfl⟩ := List.mem_map.1 hg
          exact hxs_no u y hy x hx1
        have c1 := cc p h0
        rw [← e1, cc q h1] at c1
        have c3 := bytes_back c1
        refine (hxs_one (l := hxs p) rfl hp ?_ ?_).symm
        · refine ⟨by rw [← c3, hxs_len]; exact Nat.le_refl _, fun i u hu => ?_⟩
          have hi := (List.getElem?_eq_some_iff.1 hu).1
          have hm : u ∈ q := List.mem_of_getElem? hu
          have hb := hq.2 u hm
          refine ⟨by omega, fun d hd2 e => ?_⟩
          rw [← c3, List.getD_eq_getElem?_getD, hxs, List.getElem?_map, hu] at e
          have k1 := parse_hx (d := u) (by omega)
          have e' : str (hx u) = str (hx d) := e
          rw [e', parse_hx hd2] at k1
          injection k1 with k1
          exact (ByteArray.ext (Array.toList_inj.1 k1)).symm
        · rw [← c3, hxs_len]
    · exact (hn2 p hp hT).elim
  · rcases h2 with ⟨rfl, hq, hT2⟩ | ⟨rfl, rfl, _⟩
    · exact (hn q hq hT2).elim
    · exact ⟨rfl, rfl⟩
theorem ppy_ex (T : ByteArray) : ∃ q b, PPy T q b ∧ q.length ≤ 40 := by
  by_cases h : ∃ q, parOk q ∧ fpTx q = T
  · obtain ⟨q, hq, hT⟩ := h
    exact ⟨q, true, .inl ⟨rfl, hq, hT⟩, hq.1⟩
  · exact ⟨[], false, .inr ⟨rfl, rfl, fun q hq hT => h ⟨q, hq, hT⟩⟩, by simp⟩
theorem ppy_yes {T : ByteArray} {q : List ByteArray} (hT0 : ¬ T = ByteArray.empty) (he : fpV q = T) : PPy T q true := by
  by_cases h : parOk q
  · exact .inl ⟨rfl, h, by rw [← he, fpV_yes h]⟩
  · exact absurd (by rw [← he, fpV, if_neg h]) hT0
theorem ppy_no {T : ByteArray} {l q : List ByteArray} (hd : ¬ T = str [45]) (h : PPl2 T l) (hq : HxsOf l q) (hlen : q.length = min l.length 41) (hne : ¬ fpV q = T) : PPy T [] false := by
  refine .inr ⟨rfl, rfl, fun p hp hT => hne ?_⟩
  have h0 := pos_of_dash hd hT
  have hl := h p h0 hp hT
  have hll : l.length ≤ 40 := by rw [hl, hxs_len]; exact hp.1
  have e := hxs_one hl hp hq (by omega)
  rw [e, fpV_yes hp]
  exact hT

theorem c_hexOf (x : ByteArray) (w : World) (hx : x.size ≤ maxLen) : Calls Tryd.prog 26 #[.string x] w fun e w' => (∃ (D : ByteArray) (b : Bool), e = .returned (.tuple #[.string D, .bool b]) ∧ HxOf x D) ∧ Below w.heap.size w w' :=
  (c_ParseHex x w hx).mono fun _ _ h => ⟨hx_of h.1, h.2⟩
theorem c_shexOf (x : ByteArray) (w : World) (hx : x.size ≤ 1048576) : Calls Tryd.prog 21 #[.string x] w fun e w' => (∃ (D : ByteArray) (b : Bool), e = .returned (.tuple #[.string D, .bool b]) ∧ HxOf x D) ∧ Below w.heap.size w w' :=
  (c_sParseHex x w hx).mono fun _ _ h => ⟨hx_of h.1, h.2⟩
theorem emp_yes {T : ByteArray} (h : T = ByteArray.empty) : T.toList.isEmpty = true := by rw [h, ByteArray.toList_eq]; rfl
theorem emp_no {T : ByteArray} (h : ¬ T = ByteArray.empty) : T.toList.isEmpty = false := by
  rw [ByteArray.toList_eq]
  cases e : T.data.toList with
  | nil => exact absurd (ByteArray.ext (Array.toList_inj.1 e)) h
  | cons a r => rfl

set_option maxHeartbeats 8000000 in
set_option maxRecDepth 100000 in
theorem c_ParseParity (T : ByteArray) (w : World) (ht : T.size ≤ 1048576) (mm : Int) (hm : w.cell? ⟨2, 0, none⟩ = some (.int .i64 mm)) : Calls Tryd.prog 15 #[.string T] w fun e w' => ∃ (ps : List ByteArray) (b : Bool) (A : Option Addr) (cap : Nat), PPy T ps b ∧ e = .returned (.tuple #[.slice A ps.length cap, .bool b]) ∧ w'.ownsRow w.heap.size 9 1 (.slice A ps.length cap) ps.length (ps.map sv) ∧ Below w.heap.size w w' := by
  by_cases h0 : T = ByteArray.empty
  · have hb0 := emp_yes h0
    have HR := hid (show PPy T [] false by rw [h0]; exact ppy_empty)
    clear h0
    go_enter Tryd.func15, Tryd.ntmps15
    go_wp2_with fail
    go_ret2
    exact ⟨[], false, none, 0, HR.out, rfl, own_strs_nil _ _ _, Below.refl _ _⟩
  have hb0 := emp_no h0
  by_cases hd : T = str [45]
  · have hb := dash_yes hd
    have HR := hid (show PPy T [] true by rw [hd]; exact ppy_dash)
    clear hd h0
    go_enter Tryd.func15, Tryd.ntmps15
    go_wp2_with fail
    go_ret2
    exact ⟨[], true, none, 0, HR.out, rfl, own_strs_nil _ _ _, Below.refl _ _⟩
  have hb := dash_no hd
  have H0 := hid h0
  clear h0
  go_enter Tryd.func15, Tryd.ntmps15
  go_wp2_with fail
  refine (c_SplitN 32 41 T w ht (by omega) (by omega) mm hm).mono ?_
  rintro e W2 ⟨l, cap, hl1, hl4, hlc, hc4, hsz, hcut, hemp, rfl, hW2⟩
  obtain ⟨F, hF⟩ : ∃ F, F = w.heap.size := ⟨_, rfl⟩
  rw [← hF]
  have kf : Blk W2 F 9 (Lib.cellsOf l cap) := by rw [hW2, hF]; exact Blk.new w _ _
  have c2 : Below w.heap.size w W2 := by rw [hW2]; exact bel_alloc (Below.refl _ _) _
  have HP := hid (ppl2_cut hcut)
  have HSZ := hid (show ∀ x ∈ l, x.size ≤ 1048576 from fun x hx => Nat.le_trans (hsz x hx) ht)
  have HD := hid hd
  have hFB : F < W2.heap.size := kf.lt
  obtain ⟨B, hB⟩ : ∃ B, B = W2.heap.size := ⟨_, rfl⟩
  have hwB : w.heap.size ≤ B := by rw [hB]; exact c2.size
  rw [← hB] at hFB
  have HB2 := hid (show B ≤ W2.heap.size by omega)
  obtain ⟨n, hn⟩ : ∃ n, n = l.length := ⟨_, rfl⟩
  rw [← hn]
  have Hn := hid hn
  rw [← hn] at hl1 hl4 hlc
  clear hn hd hsz hcut hemp hW2 hF hB
  go_wp2_with fail
  go_loopw [4, 16] (fun v i wr => ∃ (k : Nat) (q : List ByteArray), k ≤ n ∧ i = .int .i64 k ∧ Hid (q.length = k ∧ HxsOf l q) ∧ wr.ownsRow B 9 1 v k (q.map sv) ∧ Blk wr F 9 (Lib.cellsOf l cap) ∧ Below w.heap.size w wr ∧ B ≤ wr.heap.size) (fun _ i _ => n - (intOf i).toNat)
  case atStart => exact ⟨0, [], Nat.zero_le _, rfl, hid ⟨rfl, ⟨Nat.zero_le _, fun i p h => by simp at h⟩⟩, own_strs_nil _ _ _, kf, c2, HB2.out⟩
  case round =>
    clear kf c2
    obtain ⟨k, q, hk, rfl, HQ, hown, hkf, hbl, hBr⟩ := hrel
    rename_i wr _
    by_cases hlt : k < n
    · have hlt2 : k < l.length := by have := Hn.out; omega
      obtain ⟨x, hx⟩ : ∃ x, x = l[k] := ⟨_, rfl⟩
      have y0 : wr.cell? ⟨F, k, none⟩ = some (.string x) := (hkf.cell k).trans (cells_of_at l cap k x (by rw [hx]; exact List.getElem?_eq_getElem hlt2))
      have hxz : x.size ≤ 1048576 := by rw [hx]; exact HSZ.out _ (List.getElem_mem _)
      have HX := hid hx
      have hlti : (k : Int) < (n : Int) := by omega
      have HO := hid hown
      have HF := hid hkf
      clear hx hown hkf
      go_wp2_with fail
      refine (c_hexOf x wr (by unfold maxLen; omega)).mono ?_
      rintro e V1 ⟨⟨D, bD, rfl, hD⟩, hb1⟩
      have HDD := hid hD
      have hown6 := own_on HO.out hb1
      have kf6 := HF.out.on hb1
      have c6 := hbl.trans (hb1.mono hbl.size)
      have hB6 := Nat.le_trans hBr hb1.size
      clear y0 hD hb1 HO HF
      go_wp2_with (at_builtin; refine app_txt rfl _ _ 33 rfl B 9 Tryd.underlying33 Tryd.info_txt _ k q rfl hown6 D D rfl 1 rfl (by omega) hB6 ?_; intro v7 w7 hown7 hb7 hg7)
      have HQ2 := hid (show (q ++ [D]).length = k + 1 ∧ HxsOf l (q ++ [D]) from by
        obtain ⟨q1, q2⟩ := HQ.out
        refine ⟨by simp; omega, ?_⟩
        refine q2.snoc (by omega) _ ?_
        have e : l[q.length]'(by omega) = x := by rw [HX.out]; congr 1
        rw [e]; exact HDD.out)
      have kf7 := kf6.below hb7 hFB
      have c7 := c6.trans (hb7.mono hwB)
      have hB7 := Nat.le_trans hB6 hb7.size
      clear HQ hown6 hb7 hg7 kf6 c6
      go_roundw
      case rel => exact ⟨k + 1, q ++ [D], by omega, by go_num, HQ2, hown7, kf7, c7, hB7⟩
      case measure => simp [intOf]; omega
    · have hkn : k = n := by omega
      obtain ⟨A0, cap0, rfl, hat, hkq, _⟩ := own_strs hown
      have HAT := hid hat
      have HO := hid (own_mono (B' := w.heap.size) hown hwB)
      have hq41 : q.length ≤ 41 := by omega
      have HFI := hid (fun (v : World) (hat : StrsAt v v.heap.size A0 cap0 q) => c_FormatParity A0 cap0 q v.heap.size v hat (Nat.le_refl _) (by omega) HQ.out.2.small)
      obtain ⟨V, hV⟩ : ∃ V, V = fpV q := ⟨_, rfl⟩
      rw [← hV] at HFI
      have HV := hid hV
      have HLN := hid (show q.length = min l.length 41 by have := Hn.out; omega)
      have hlti : ¬ (k : Int) < (n : Int) := by omega
      have HKQ := hid hkq
      rw [hkq] at HO
      clear hV hat hown hkn hkq
      go_wp2_with fail
      refine (HFI.out _ HAT.out).mono ?_
      rintro e W9 ⟨rfl, hb9⟩
      by_cases he : V = T
      · have he1 : (V.toList == T.toList) = true := by rw [he]; simp
        have HR := hid (ppy_yes H0.out (HV.out.symm.trans he))
        have hB9 := hbl.trans (hb9.mono hbl.size)
        have HO9 := hid (own_on HO.out hb9)
        clear he
        go_wp2
        go_ret2
        exact ⟨q, true, A0, cap0, HR.out, rfl, HO9.out, hB9⟩
      · have he1 : (V.toList == T.toList) = false := bytes_neI he
        have HR := hid (ppy_no HD.out HP.out HQ.out.2 HLN.out (fun h => he (HV.out.trans h)))
        have hB9 := hbl.trans (hb9.mono hbl.size)
        clear he
        go_wp2
        go_ret2
        exact ⟨[], false, none, 0, HR.out, rfl, own_strs_nil _ _ _, hB9⟩

set_option maxHeartbeats 8000000 in
set_option maxRecDepth 100000 in
theorem c_sParseParity (T : ByteArray) (w : World) (ht : T.size ≤ 1048576) : Calls Tryd.prog 14 #[.string T] w fun e w' => ∃ (ps : List ByteArray) (b : Bool) (A : Option Addr) (cap : Nat), PPy T ps b ∧ e = .returned (.tuple #[.slice A ps.length cap, .bool b]) ∧ w'.ownsRow w.heap.size 9 1 (.slice A ps.length cap) ps.length (ps.map sv) ∧ Below w.heap.size w w' := by
  have HZ := hid (fun (V : World) (hV : w.heap.size ≤ V.heap.size) => show (V.alloc (.cells #[] 9)).ownsRow w.heap.size 9 1 (.slice (some ⟨V.heap.size, 0, none⟩) 0 0) 0 (([] : List ByteArray).map sv) from World.ownsRow_made (e := 9) (size := 1) (base := w.heap.size) V #[] 0 hV (by simp) (by simp [maxLen]))
  have HN := hid (fun (v : World) => c_l3None T v)
  have HC := hid (fun (v : World) => c_l9Cut 32 (undI T) v (Nat.le_trans (undI_size T) ht))
  by_cases h0 : T = ByteArray.empty
  · have hb0 := emp_yes h0
    have HR := hid (show PPy T [] false by rw [h0]; exact ppy_empty)
    have HO := hid (HZ.out w (Nat.le_refl _))
    have HB := hid (bel_alloc (Below.refl w.heap.size w) (.cells #[] 9))
    clear h0 HZ HN HC
    go_enter Tryd.func14, Tryd.ntmps14
    go_wp2_with fail
    go_ret2
    exact ⟨[], false, _, _, HR.out, rfl, HO.out, HB.out⟩
  have hb0 := emp_no h0
  have H0 := hid h0
  clear h0
  go_enter Tryd.func14, Tryd.ntmps14
  go_wp2_with fail
  obtain ⟨W1, hW1⟩ : ∃ W1, W1 = w.alloc (.cells #[] 9) := ⟨_, rfl⟩
  obtain ⟨G, hG⟩ : ∃ G, G = w.heap.size := ⟨_, rfl⟩
  have own1 : W1.ownsRow w.heap.size 9 1 (.slice (some ⟨G, 0, none⟩) 0 0) 0 (([] : List ByteArray).map sv) := by rw [hW1, hG]; exact HZ.out w (Nat.le_refl _)
  have c1 : Below w.heap.size w W1 := by rw [hW1]; exact bel_alloc (Below.refl _ _) _
  have hGlt : G < W1.heap.size := (own1.lt G rfl).2
  rw [← hW1, ← hG]
  clear hW1 hG
  refine (HN.out W1).mono ?_
  rintro e W9 ⟨rfl, rfl⟩
  go_wp2_with fail
  refine (HC.out W1).mono ?_
  rintro e W2 ⟨l, AA, cap, hmap, hll, rfl, hown, hb2⟩
  have own2 := own_on own1 hb2
  have c2 := c1.trans (hb2.mono c1.size)
  have hsep : ∀ g, (Value.slice (some ⟨G, 0, none⟩) 0 0).ownBlock = some g → (Value.slice AA l.length cap).ownBlock = some g → False := fun g e1 e2 => by
    have h1 := (hown.lt g e2).1
    simp [Value.ownBlock] at e1
    omega
  obtain ⟨n, hn⟩ : ∃ n, n = l.length := ⟨_, rfl⟩
  have Hn := hid hn
  rw [← hn] at hown hll hsep ⊢
  clear own1 c1 hb2 hn hGlt
  by_cases hd : T = str [45]
  · have hb := dash_yes hd
    have HFI := hid (fun (v : World) (A0 : Option Addr) (cap0 : Nat) (hat : StrsAt v v.heap.size A0 cap0 []) => c_sFormatParity A0 cap0 [] v.heap.size v hat (Nat.le_refl _) (by simp) (fun s h => by simp at h))
    have hfv : fpV [] = T := by rw [fpV_yes par_nil, fpTx_nil, hd]
    rw [hfv] at HFI
    have HR := hid (show PPy T [] true by rw [hd]; exact ppy_dash)
    have he1 : (T.toList == T.toList) = true := by simp
    clear hd hfv hown
    go_wp2_with fail
    go_loopw [4, 6] (fun v i wr => v = .slice (some ⟨G, 0, none⟩) 0 0 ∧ i = .int .i64 0 ∧ wr.ownsRow w.heap.size 9 1 (.slice (some ⟨G, 0, none⟩) 0 0) 0 (([] : List ByteArray).map sv) ∧ Below w.heap.size w wr) (fun _ i _ => 0)
    case atStart => exact ⟨rfl, rfl, own2, c2⟩
    case round =>
      obtain ⟨rfl, rfl, hown, hbl⟩ := hrel
      have HAT := hid (own_strs_at hown)
      have HO := hid hown
      clear hown own2 c2
      by_cases h0 : (0 : Int) < (n : Int)
      all_goals
        go_wp2_with fail
        refine (HFI.out _ _ _ HAT.out).mono ?_
        rintro e W5 ⟨rfl, hb5⟩
        have HO5 := hid (own_on HO.out hb5)
        have HB5 := hid (hbl.trans (hb5.mono hbl.size))
        go_wp2
        go_ret2
        exact ⟨[], true, _, _, HR.out, rfl, HO5.out, HB5.out⟩
  · have hb := dash_no hd
    have hund : undI T = T := by rw [undI, if_neg hd]
    rw [hund] at hmap ⊢
    have HP := hid (ppl2_cutL hmap)
    have HSZ := hid (show ∀ x ∈ l, x.size ≤ 1048576 from fun x hx => Nat.le_trans (cut_sizes hmap x hx) ht)
    have HD := hid hd
    have HSEP := hid hsep
    clear hd hund hmap HN HC hsep
    go_wp2_with fail
    go_loopw [4, 6] (fun v i wr => ∃ (k : Nat) (q : List ByteArray), k ≤ n ∧ k ≤ 41 ∧ i = .int .i64 k ∧ Hid (q.length = k ∧ HxsOf l q) ∧ wr.ownsRow w.heap.size 9 1 v k (q.map sv) ∧ wr.ownsRow W1.heap.size 9 1 (.slice AA n cap) n (l.map sv) ∧ Hid (∀ g, v.ownBlock = some g → (Value.slice AA n cap).ownBlock = some g → False) ∧ Below w.heap.size w wr) (fun _ i _ => n - (intOf i).toNat)
    case atStart => exact ⟨0, [], Nat.zero_le _, by omega, rfl, hid ⟨rfl, ⟨Nat.zero_le _, fun i p h => by simp at h⟩⟩, own2, hown, HSEP, c2⟩
    case round =>
      clear own2 hown c2 HSEP
      obtain ⟨k, q, hk, hk41, rfl, HQ, hown, hpar, HS, hbl⟩ := hrel
      rename_i wr _
      by_cases hlt : k < n ∧ k ≤ 40
      · obtain ⟨hlt1, hlt40⟩ := hlt
        have hlt2 : k < l.length := by have := Hn.out; omega
        have hat := own_strs_at hpar
        obtain ⟨b, off, rfl, hb0', y0⟩ := txt_at hat k hlt2
        obtain ⟨x, hx⟩ : ∃ x, x = l[k] := ⟨_, rfl⟩
        rw [← hx] at y0
        have hxz : x.size ≤ 1048576 := by rw [hx]; exact HSZ.out _ (List.getElem_mem _)
        have hcap := hat.1
        rw [← Hn.out] at hcap
        have HX := hid hx
        have hlti : (k : Int) < (n : Int) := by omega
        have hk40i : (k : Int) ≤ 40 := by omega
        have HO := hid hown
        have HPA := hid hpar
        clear hx hown hpar hat
        go_wp2_with fail
        refine (c_shexOf x wr hxz).mono ?_
        rintro e W6 ⟨⟨D, bD, rfl, hD⟩, hb6⟩
        have HDD := hid hD
        have own6 := own_on HO.out hb6
        have par6 := own_on HPA.out hb6
        have c6 := hbl.trans (hb6.mono hbl.size)
        clear y0 hD hb6 HO HPA
        go_wp2_with (at_builtin; refine app_txt2 rfl _ _ 33 rfl w.heap.size 9 Tryd.underlying33 Tryd.info_txt _ k q rfl own6 D 1 rfl (by omega) c6.size ?_; intro v7 w7 hown7 hb7 hg7 hw7)
        have HQ2 := hid (show (q ++ [D]).length = k + 1 ∧ HxsOf l (q ++ [D]) from by
          obtain ⟨q1, q2⟩ := HQ.out
          refine ⟨by simp; omega, ?_⟩
          refine q2.snoc (by omega) _ ?_
          have e : l[q.length]'(by omega) = x := by rw [HX.out]; congr 1
          rw [e]; exact HDD.out)
        have par7 := par6.kept hg7 (by
          cases hv : (Value.slice (some ⟨b, off, none⟩) n cap).ownBlock with
          | none => exact .inl rfl
          | some g => right; intro e; exact HS.out g e.symm hv)
        have HS7 := hid (show ∀ g, v7.ownBlock = some g → (Value.slice (some ⟨b, off, none⟩) n cap).ownBlock = some g → False from fun g e1 e2 => by
          rcases hw7 with h | h
          · exact HS.out g (h.symm.trans e1) e2
          · have := (par6.lt g e2).2
            rw [h] at e1
            simp at e1
            omega)
        have c7 := c6.trans hb7
        clear HQ own6 par6 hb7 hg7 c6 HS hw7
        go_roundw
        case rel => exact ⟨k + 1, q ++ [D], by omega, by omega, by go_num, HQ2, hown7, par7, HS7, c7⟩
        case measure => simp [intOf]; omega
      · obtain ⟨A0, cap0, rfl, hat, hkq, _⟩ := own_strs hown
        have HAT := hid hat
        have HO := hid hown
        have HFI := hid (fun (v : World) (hat : StrsAt v v.heap.size A0 cap0 q) => c_sFormatParity A0 cap0 q v.heap.size v hat (Nat.le_refl _) (by omega) HQ.out.2.small)
        obtain ⟨V, hV⟩ : ∃ V, V = fpV q := ⟨_, rfl⟩
        rw [← hV] at HFI
        have HV := hid hV
        have HLN := hid (show q.length = min l.length 41 by have := Hn.out; omega)
        have hone : ¬ ((k : Int) < (n : Int) ∧ (k : Int) ≤ 40) := by omega
        have HKQ := hid hkq
        rw [hkq] at HO
        clear hV hat hown hlt hkq hpar HS
        have hcase : ¬ (k : Int) < (n : Int) ∨ ((k : Int) < (n : Int) ∧ ¬ (k : Int) ≤ 40) := by omega
        rcases hcase with h1 | ⟨h1, h2⟩
        all_goals
          clear hone
          go_wp2_with fail
          refine (HFI.out _ HAT.out).mono ?_
          rintro e W9 ⟨rfl, hb9⟩
          by_cases he : V = T
          · have he1 : (V.toList == T.toList) = true := by rw [he]; simp
            have HR := hid (ppy_yes H0.out (HV.out.symm.trans he))
            have hB9 := hbl.trans (hb9.mono hbl.size)
            have HO9 := hid (own_on HO.out hb9)
            clear he
            go_wp2
            go_ret2
            exact ⟨q, true, A0, cap0, HR.out, rfl, HO9.out, hB9⟩
          · have he1 : (V.toList == T.toList) = false := bytes_neI he
            have HR := hid (ppy_no HD.out HP.out HQ.out.2 HLN.out (fun h => he (HV.out.trans h)))
            have hB9 := hbl.trans (hb9.mono hbl.size)
            have HO9 := hid (HZ.out _ hB9.size)
            have HB9 := hid (bel_alloc hB9 (.cells #[] 9))
            clear he HZ
            go_wp2
            go_ret2
            exact ⟨[], false, _, _, HR.out, rfl, HO9.out, HB9.out⟩
end Go.Proofs.YtcliagnongbkmaaDoor
