/- Plain mathematics: blocks, their bytes, how they are parsed, and how a container is read. No condition. -/
import Derived.Test.YthhgamnkidkanaaDoorSm
namespace Go.Proofs.YthhgamnkidkanaaDoor
set_option linter.unusedVariables false

/-- two bytes of a number, the one of higher value first -/
def two (n : Nat) : List UInt8 := [UInt8.ofNat (n / 256), UInt8.ofNat n]
theorem two_len (n : Nat) : (two n).length = 2 := rfl
/-- a block -/
structure Bl where
  n : Int
  raw : Bool
  z : Int
  body : ByteArray
def Bl.ok (b : Bl) : Prop := (0 ≤ b.n ∧ b.n ≤ 39) ∧ (1 ≤ b.z ∧ b.z ≤ 64) ∧ (b.raw = true → (b.body.size : Int) = b.z) ∧ (b.raw = false → 1 ≤ b.body.size ∧ (b.body.size : Int) < b.z)
instance (b : Bl) : Decidable b.ok := by unfold Bl.ok; exact inferInstance
def Bl.kind (b : Bl) : UInt8 := if b.raw then 0 else 1
def Bl.inner (b : Bl) : List UInt8 := b.kind :: (two b.n.toNat ++ (two b.z.toNat ++ (two b.body.size ++ b.body.data.toList)))
def Bl.text (b : Bl) : List UInt8 := 181 :: (b.inner ++ two (M.ck b.inner))
theorem Bl.inner_len (b : Bl) : b.inner.length = 7 + b.body.size := by
  simp [Bl.inner, two]; omega
theorem Bl.text_len (b : Bl) : b.text.length = 10 + b.body.size := by
  simp [Bl.text, b.inner_len, two]; omega
theorem Bl.len (b : Bl) (h : b.ok) : 1 ≤ b.body.size ∧ b.body.size ≤ 64 := by
  obtain ⟨h1, h2, h3, h4⟩ := h
  cases hr : b.raw with
  | true => have := h3 hr; omega
  | false => have := h4 hr; omega
/-- the byte at an index -/
def bat (T : List UInt8) (i : Nat) : Nat := (T.getD i 0).toNat
/-- the number of two bytes -/
def pat2 (T : List UInt8) (i : Nat) : Nat := 256 * bat T i + bat T (i + 1)
theorem bat_lt (T : List UInt8) (i : Nat) : bat T i < 256 := UInt8.toNat_lt _
/-- what stands at the beginning of bytes as a block -/
def brd (T : List UInt8) : Bl := ⟨pat2 T 2, bat T 1 == 0, pat2 T 4, ⟨((T.drop 8).take (pat2 T 6)).toArray⟩⟩
/-- the fields of a header are allowed -/
def hdOk (T : List UInt8) : Prop := 8 ≤ T.length ∧ bat T 0 = 181 ∧ bat T 1 ≤ 1 ∧ pat2 T 2 ≤ 39 ∧ (1 ≤ pat2 T 4 ∧ pat2 T 4 ≤ 64) ∧ (1 ≤ pat2 T 6 ∧ pat2 T 6 ≤ 64)
instance (T : List UInt8) : Decidable (hdOk T) := by unfold hdOk; exact inferInstance
def bOk (T : List UInt8) : Prop := hdOk T ∧ 10 + pat2 T 6 ≤ T.length ∧ (brd T).ok ∧ (brd T).text = T.take (10 + pat2 T 6)
instance (T : List UInt8) : Decidable (bOk T) := by unfold bOk; exact inferInstance
/-- the block with which bytes begin -/
def parse (T : List UInt8) : Option Bl := if bOk T then some (brd T) else none
theorem brd_size (T : List UInt8) (h : 10 + pat2 T 6 ≤ T.length) : (brd T).body.size = pat2 T 6 := by
  simp [brd, ByteArray.size]; omega
theorem parse_some {T : List UInt8} {b : Bl} (h : parse T = some b) : b = brd T ∧ bOk T := by
  unfold parse at h
  split at h
  · exact ⟨(Option.some.inj h).symm, by assumption⟩
  · cases h
theorem parse_none {T : List UInt8} (h : parse T = none) : ¬ bOk T := by
  unfold parse at h
  split at h
  · cases h
  · assumption
theorem Bl.kind_lt (b : Bl) : b.kind.toNat ≤ 1 ∧ (b.kind.toNat = 0 ↔ b.raw = true) := by
  unfold Bl.kind; cases b.raw <;> simp
theorem pr_two (n : Nat) (h : n < 65536) (x y : List UInt8) : pat2 (x ++ two n ++ y) x.length = n := by
  have e0 : (x ++ two n ++ y).getD x.length 0 = UInt8.ofNat (n / 256) := by simp [two, List.getD_eq_getElem?_getD]
  have e1 : (x ++ two n ++ y).getD (x.length + 1) 0 = UInt8.ofNat n := by simp [two, List.getD_eq_getElem?_getD]
  unfold pat2 bat
  rw [e0, e1]
  simp only [UInt8.toNat_ofNat']
  omega
/-- bytes that begin with the text of a block are parsed as it -/
theorem parse_text (b : Bl) (h : b.ok) (R : List UInt8) : parse (b.text ++ R) = some b := by
  have hl := b.len h
  obtain ⟨h1, h2, h3, h4⟩ := id h
  have b0 : bat (b.text ++ R) 0 = 181 := rfl
  have b1 : bat (b.text ++ R) 1 = b.kind.toNat := rfl
  have p2 : pat2 (b.text ++ R) 2 = b.n.toNat := by
    have := pr_two b.n.toNat (by omega) [181, b.kind] (two b.z.toNat ++ (two b.body.size ++ b.body.data.toList) ++ two (M.ck b.inner) ++ R)
    simpa [Bl.text, Bl.inner] using this
  have p4 : pat2 (b.text ++ R) 4 = b.z.toNat := by
    have := pr_two b.z.toNat (by omega) (181 :: b.kind :: two b.n.toNat) (two b.body.size ++ b.body.data.toList ++ two (M.ck b.inner) ++ R)
    simpa [Bl.text, Bl.inner, two] using this
  have p6 : pat2 (b.text ++ R) 6 = b.body.size := by
    have := pr_two b.body.size (by omega) (181 :: b.kind :: (two b.n.toNat ++ two b.z.toNat)) (b.body.data.toList ++ two (M.ck b.inner) ++ R)
    simpa [Bl.text, Bl.inner, two] using this
  have hk := b.kind_lt
  have hlen : (b.text ++ R).length = 10 + b.body.size + R.length := by rw [List.length_append, b.text_len]
  have e : brd (b.text ++ R) = b := by
    have e1 : ((b.text ++ R).drop 8).take (pat2 (b.text ++ R) 6) = b.body.data.toList := by
      rw [p6]
      simp only [Bl.text, Bl.inner, two, List.cons_append, List.nil_append, List.drop_succ_cons, List.drop_zero, List.append_assoc]
      rw [List.take_append_of_le_length (by simp)]
      rw [List.take_of_length_le (by simp)]
    unfold brd
    rw [e1, p2, p4, b1]
    cases b with
    | mk n raw z body =>
      have q1 : ((n.toNat : Nat) : Int) = n := by have := h1.1; simp only at this; omega
      have q2 : ((z.toNat : Nat) : Int) = z := by have := h2.1; simp only at this; omega
      simp only [q1, q2]
      congr 1
      cases raw <;> rfl
  unfold parse
  rw [if_pos, e]
  have hd : hdOk (b.text ++ R) := by
    unfold hdOk
    rw [b0, b1, p2, p4, p6]
    omega
  refine ⟨hd, by omega, by rw [e]; exact h, ?_⟩
  rw [e, p6, ← b.text_len, List.take_left']
  rfl
theorem parse_len {T : List UInt8} {b : Bl} (h : parse T = some b) : b.ok ∧ 10 + b.body.size ≤ T.length ∧ T.take (10 + b.body.size) = b.text := by
  obtain ⟨rfl, h1, h2, h3, h4⟩ := parse_some h
  rw [brd_size T h2]
  exact ⟨h3, h2, h4.symm⟩
/-- the bytes of blocks, one directly after the other -/
def txt (bs : List Bl) : List UInt8 := bs.flatMap Bl.text
/-- the sizes of blocks together -/
def zs : List Bl → Nat
  | [] => 0
  | b :: t => b.z.toNat + zs t
theorem txt_snoc (bs : List Bl) (b : Bl) : txt (bs ++ [b]) = txt bs ++ b.text := by simp [txt]
theorem txt_app (bs cs : List Bl) : txt (bs ++ cs) = txt bs ++ txt cs := by simp [txt]
theorem zs_app (bs cs : List Bl) : zs (bs ++ cs) = zs bs + zs cs := by
  induction bs with
  | nil => simp [zs]
  | cons b t ih => simp [zs, ih]; omega
theorem zs_snoc (bs : List Bl) (b : Bl) : zs (bs ++ [b]) = zs bs + b.z.toNat := by rw [zs_app]; simp [zs]
/-- bytes begin with these blocks, which are numbered from 0 on -/
def Rdg (S : List UInt8) (bs : List Bl) : Prop := (∀ (i : Nat) (b : Bl), bs[i]? = some b → b.ok ∧ b.n = (i : Int)) ∧ S.take (txt bs).length = txt bs ∧ (txt bs).length ≤ S.length
theorem Rdg.nil (S : List UInt8) : Rdg S [] := ⟨fun i b h => by simp at h, by simp [txt], by simp [txt]⟩
/-- the next block -/
theorem Rdg.next {S : List UInt8} {bs : List Bl} (h : Rdg S bs) {b : Bl} (hp : parse (S.drop (txt bs).length) = some b) (hn : b.n = (bs.length : Int)) : Rdg S (bs ++ [b]) := by
  obtain ⟨h1, h2, h3⟩ := h
  obtain ⟨p1, p2, p3⟩ := parse_len hp
  rw [List.length_drop] at p2
  refine ⟨fun i c hc => ?_, ?_, ?_⟩
  · rw [List.getElem?_append] at hc
    split at hc
    · exact h1 i c hc
    · have hi : i = bs.length := by
        rw [List.getElem?_eq_some_iff] at hc
        obtain ⟨hh, _⟩ := hc
        simp at hh
        omega
      subst hi
      simp at hc
      subst hc
      exact ⟨p1, hn⟩
  · rw [txt_snoc, List.length_append, List.take_add, h2, b.text_len, p3]
  · rw [txt_snoc, List.length_append, b.text_len]; omega
theorem Rdg.take {S : List UInt8} {bs : List Bl} (h : Rdg S bs) (k : Nat) : Rdg S (bs.take k) := by
  obtain ⟨h1, h2, h3⟩ := h
  have e : txt bs = txt (bs.take k) ++ txt (bs.drop k) := by rw [← txt_app, List.take_append_drop]
  have hl : (txt (bs.take k)).length ≤ (txt bs).length := by rw [e, List.length_append]; omega
  refine ⟨fun i b hb => ?_, ?_, by omega⟩
  · rw [List.getElem?_take] at hb
    split at hb
    · exact h1 i b hb
    · cases hb
  · have : S.take (txt (bs.take k)).length = (S.take (txt bs).length).take (txt (bs.take k)).length := by
      rw [List.take_take, Nat.min_eq_left hl]
    rw [this, h2, e, List.take_left']
    rfl
/-- the block behind the first k ones -/
theorem Rdg.at_ {S : List UInt8} {bs : List Bl} (h : Rdg S bs) {k : Nat} {b : Bl} (hk : bs[k]? = some b) : parse (S.drop (txt (bs.take k)).length) = some b := by
  have hok := (h.1 k b hk).1
  obtain ⟨h1, h2, h3⟩ := h.take (k + 1)
  have hlt : k < bs.length := by
    rw [List.getElem?_eq_some_iff] at hk
    exact hk.1
  have e : bs.take (k + 1) = bs.take k ++ [b] := by
    rw [List.take_add_one, hk]; rfl
  rw [e] at h2 h3
  rw [txt_snoc, List.length_append] at h2 h3
  have e2 : S = txt (bs.take k) ++ b.text ++ S.drop ((txt (bs.take k)).length + b.text.length) := by
    have := List.take_append_drop ((txt (bs.take k)).length + b.text.length) S
    rw [h2] at this
    exact this.symm
  have e3 : S.drop (txt (bs.take k)).length = b.text ++ S.drop ((txt (bs.take k)).length + b.text.length) := by
    conv => lhs; rw [e2]
    rw [List.append_assoc, List.drop_left']
    rfl
  rw [e3]
  exact parse_text b hok _
/-- two readings of the same bytes agree -/
theorem Rdg.det {S : List UInt8} {bs cs : List Bl} (h : Rdg S bs) (g : Rdg S cs) : ∀ k, k ≤ bs.length → k ≤ cs.length → bs.take k = cs.take k
  | 0, _, _ => by simp
  | k + 1, hb, hc => by
    have ih := Rdg.det h g k (by omega) (by omega)
    have e1 := h.at_ (List.getElem?_eq_getElem (by omega : k < bs.length))
    have e2 := g.at_ (List.getElem?_eq_getElem (by omega : k < cs.length))
    rw [ih] at e1
    rw [e1] at e2
    have e3 := Option.some.inj e2
    rw [List.take_succ_eq_append_getElem (by omega), List.take_succ_eq_append_getElem (by omega), ih, e3]
/-- how a reading ends: 0: behind the last byte; 1: no block; 2: its number is wrong; 3: it is too much data -/
def Why (S : List UInt8) (bs : List Bl) (c : Nat) : Prop :=
  (c = 0 ∧ (txt bs).length = S.length) ∨ ((txt bs).length < S.length ∧ ((c = 1 ∧ parse (S.drop (txt bs).length) = none) ∨ ∃ b, parse (S.drop (txt bs).length) = some b ∧ ((c = 2 ∧ b.n ≠ (bs.length : Int)) ∨ (c = 3 ∧ b.n = (bs.length : Int) ∧ 2000 < zs bs + b.z.toNat))))
structure Stop (S : List UInt8) (bs : List Bl) (c : Nat) : Prop where
  brd : Rdg S bs
  le : zs bs ≤ 2000
  why : Why S bs c
theorem text_pos (b : Bl) : 0 < b.text.length := by rw [b.text_len]; omega
theorem txt_take_lt {bs : List Bl} {k : Nat} {b : Bl} (h : bs[k]? = some b) : (txt (bs.take k)).length < (txt bs).length := by
  have hlt : k < bs.length := by
    rw [List.getElem?_eq_some_iff] at h
    exact h.1
  have e : txt bs = txt (bs.take k) ++ txt (bs.drop k) := by rw [← txt_app, List.take_append_drop]
  have e2 : bs.drop k = bs[k] :: bs.drop (k + 1) := List.drop_eq_getElem_cons hlt
  have := text_pos bs[k]
  rw [e, e2, List.length_append]
  simp only [txt, List.flatMap_cons, List.length_append]
  omega
theorem zs_take_le (bs : List Bl) (k : Nat) : zs (bs.take k) ≤ zs bs := by
  have e : bs = bs.take k ++ bs.drop k := (List.take_append_drop k bs).symm
  have : zs bs = zs (bs.take k) + zs (bs.drop k) := by
    conv => lhs; rw [e]
    rw [zs_app]
  omega
/-- there is one way in which a reading ends -/
theorem Stop.le_of {S : List UInt8} {bs cs : List Bl} {c d : Nat} (h : Stop S bs c) (g : Rdg S cs) (gz : zs cs ≤ 2000) : cs.length ≤ bs.length := by
  rcases Nat.lt_or_ge bs.length cs.length with hlt | hge
  · exfalso
    have e := h.brd.det g bs.length (Nat.le_refl _) (by omega)
    rw [List.take_length] at e
    have hk : cs[bs.length]? = some cs[bs.length] := List.getElem?_eq_getElem hlt
    have hp := g.at_ hk
    have hn := (g.1 _ _ hk).2
    rw [← e] at hp
    have hl := txt_take_lt hk
    rw [← e] at hl
    have hz := zs_take_le cs (bs.length + 1)
    rw [List.take_add_one, hk, ← e] at hz
    have hz2 : zs (bs ++ [cs[bs.length]]) ≤ zs cs := hz
    rw [zs_snoc] at hz2
    have h3 := g.2.2
    rcases h.why with ⟨_, h0⟩ | ⟨_, ⟨_, h1⟩ | ⟨b, h1, ⟨_, h2⟩ | ⟨_, _, h2⟩⟩⟩
    · omega
    · rw [h1] at hp; cases hp
    · rw [h1] at hp
      obtain rfl := Option.some.inj hp
      exact h2 hn
    · rw [h1] at hp
      obtain rfl := Option.some.inj hp
      omega
  · exact hge
theorem Stop.one {S : List UInt8} {bs cs : List Bl} {c d : Nat} (h : Stop S bs c) (g : Stop S cs d) : bs = cs ∧ c = d := by
  have l1 := h.le_of (d := d) g.brd g.le
  have l2 := g.le_of (d := c) h.brd h.le
  have hl : bs.length = cs.length := by omega
  have e := h.brd.det g.brd bs.length (Nat.le_refl _) (by omega)
  rw [List.take_length, hl, List.take_length] at e
  refine ⟨e, ?_⟩
  subst e
  rcases h.why with ⟨a0, h0⟩ | ⟨a0, ⟨a1, h1⟩ | ⟨b, h1, ⟨a2, h2⟩ | ⟨a2, a3, h2⟩⟩⟩ <;> rcases g.why with ⟨b0, g0⟩ | ⟨b0, ⟨b1, g1⟩ | ⟨b', g1, ⟨b2, g2⟩ | ⟨b2, b3, g2⟩⟩⟩ <;> first | omega | (exfalso; rw [g1] at h1; cases h1; done) | (rw [g1] at h1; obtain rfl := Option.some.inj h1; omega)
/-- each reading ends -/
theorem stop_from (S : List UInt8) : ∀ (m : Nat) (bs : List Bl), Rdg S bs → zs bs ≤ 2000 → S.length - (txt bs).length ≤ m → ∃ cs c, Stop S cs c
  | 0, bs, h, hz, hm => ⟨bs, 0, h, hz, Or.inl ⟨rfl, by have := h.2.2; omega⟩⟩
  | m + 1, bs, h, hz, hm => by
    by_cases hl : (txt bs).length < S.length
    · cases hp : parse (S.drop (txt bs).length) with
      | none => exact ⟨bs, 1, h, hz, Or.inr ⟨hl, Or.inl ⟨rfl, hp⟩⟩⟩
      | some b =>
        by_cases hn : b.n = (bs.length : Int)
        · by_cases h2 : 2000 < zs bs + b.z.toNat
          · exact ⟨bs, 3, h, hz, Or.inr ⟨hl, Or.inr ⟨b, hp, Or.inr ⟨rfl, hn, h2⟩⟩⟩⟩
          · refine stop_from S m (bs ++ [b]) (h.next hp hn) (by rw [zs_snoc]; omega) ?_
            rw [txt_snoc, List.length_append]
            have := text_pos b
            omega
        · exact ⟨bs, 2, h, hz, Or.inr ⟨hl, Or.inr ⟨b, hp, Or.inl ⟨rfl, hn⟩⟩⟩⟩
    · exact ⟨bs, 0, h, hz, Or.inl ⟨rfl, by have := h.2.2; omega⟩⟩
theorem stop_ex (S : List UInt8) : ∃ cs c, Stop S cs c := stop_from S S.length [] (Rdg.nil S) (by simp [zs]) (by omega)
theorem Stop.code {S : List UInt8} {bs : List Bl} {c : Nat} (h : Stop S bs c) : c ≤ 3 := by
  rcases h.why with ⟨a0, h0⟩ | ⟨a0, ⟨a1, h1⟩ | ⟨b, h1, ⟨a2, h2⟩ | ⟨a2, a3, h2⟩⟩⟩ <;> omega
theorem Rdg.len_le {S : List UInt8} {bs : List Bl} (h : Rdg S bs) : bs.length ≤ 40 := by
  rcases Nat.lt_or_ge 40 bs.length with hlt | hge
  · exfalso
    obtain ⟨⟨h1, _⟩, h2⟩ := h.1 40 bs[40] (List.getElem?_eq_getElem hlt)
    omega
  · exact hge
theorem Rdg.txt_le {S : List UInt8} {bs : List Bl} (h : Rdg S bs) : (txt bs).length ≤ 74 * bs.length := by
  have key : ∀ l : List Bl, (∀ b ∈ l, b.ok) → (txt l).length ≤ 74 * l.length := by
    intro l
    induction l with
    | nil => intro _; simp [txt]
    | cons b t ih =>
      intro hb
      have h1 := ih (fun c hc => hb c (List.mem_cons_of_mem _ hc))
      have h2 := b.len (hb b List.mem_cons_self)
      have h3 := b.text_len
      have e : txt (b :: t) = b.text ++ txt t := by simp [txt]
      rw [e, List.length_append, List.length_cons]
      omega
  refine key bs fun b hb => ?_
  obtain ⟨i, hi, rfl⟩ := List.getElem_of_mem hb
  exact (h.1 i _ (List.getElem?_eq_getElem hi)).1
end Go.Proofs.YthhgamnkidkanaaDoor
