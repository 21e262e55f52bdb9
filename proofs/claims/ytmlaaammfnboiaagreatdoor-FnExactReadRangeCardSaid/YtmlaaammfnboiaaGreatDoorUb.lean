/- Plain mathematics: the checksum of bytes, by sums. It imports nothing. No condition. Plain mathematics: blocks, their bytes, how they are parsed, and how a container is read. No condition. Contracts of SumOf in both programs. No condition but that a string has a length. Rows that the call owns, beside boxes and beside each other. No condition. Contracts: the two bytes of a number, a block's header, its bytes, whether it is one; in both programs. The layout of the header is as the program's text lays it. Contracts: a block's bytes and whether it is one, FormatBlock in both programs, and the walk of its exact law. The layout of the header is as the program's text lays it. Contracts: a block's bytes and whether it is one, FormatBlock in both programs, and the walk of its exact law. The layout of the header is as the program's text lays it. Contracts: a block's bytes and whether it is one, FormatBlock in both programs, and the walk of its exact law. The layout of the header is as the program's text lays it. -/
import Derived.Test.YtmlaaammfnboiaaGreatDoorBa
import Derived.Test.YtmlaaammfnboiaaGreatDoorBb
import Derived.Deep.Quiet
import Derived.OrdersHeld
import Derived.Test.YtmlaaammfnboiaaGreatDoorGo
import Derived.Deep.QuietTactic
import Derived.BigQuiet
import Derived.LoopN
import Derived.WalkLawsBesides
import Derived.Test.YtmlaaammfnboiaaGreatDoorOo
namespace Go.Proofs.YtmlaaammfnboiaaGreatDoor
section
namespace M
/-- the sum of bytes -/
def sm : List UInt8 → Nat
  | [] => 0
  | c :: t => c.toNat + sm t
/-- the sum of the sums of all beginnings -/
def sw : List UInt8 → Nat
  | [] => 0
  | c :: t => c.toNat * (t.length + 1) + sw t
theorem sm_app (x y : List UInt8) : sm (x ++ y) = sm x + sm y := by
  induction x with
  | nil => simp [sm]
  | cons c t ih => simp only [List.cons_append, sm, ih]; omega
theorem sw_app (x y : List UInt8) : sw (x ++ y) = sw x + sm x * y.length + sw y := by
  induction x with
  | nil => simp [sw, sm]
  | cons c t ih =>
    simp only [List.cons_append, sw, sm, ih, List.length_append, Nat.add_mul, Nat.mul_add, Nat.mul_one]
    omega
theorem sm_snoc (x : List UInt8) (c : UInt8) : sm (x ++ [c]) = sm x + c.toNat := by rw [sm_app]; simp [sm]
theorem sw_snoc (x : List UInt8) (c : UInt8) : sw (x ++ [c]) = sw x + sm x + c.toNat := by rw [sw_app]; simp [sw]
/-- the checksum -/
def ck (l : List UInt8) : Nat := 256 * (sw l % 255) + sm l % 255
theorem ck_le (l : List UInt8) : ck l ≤ 65535 := by unfold ck; omega
end M
end

section
set_option linter.unusedVariables false

/-- two bytes of a number, the one of higher value first -/
def two (n : Nat) : List UInt8 := [UInt8.ofNat (n / 256), UInt8.ofNat n]
/-- a block -/
structure Bl where
  n : Int
  raw : Bool
  z : Int
  body : ByteArray
def Bl.ok (b : Bl) : Prop := (0 ≤ b.n ∧ b.n ≤ 39) ∧ (1 ≤ b.z ∧ b.z ≤ 64) ∧ (b.raw = true → (b.body.size : Int) = b.z) ∧ (b.raw = false → 1 ≤ b.body.size ∧ (b.body.size : Int) < b.z)
instance (b : Bl) : Decidable b.ok := by unfold Bl.ok; exact inferInstance
def Bl.kind (b : Bl) : UInt8 := if b.raw then 0 else 1
def Bl.inner (b : Bl) : List UInt8 := b.kind :: (two b.n.toNat ++ (two b.z.toNat ++ (two b.body.size ++ b.body.data.toList)))
def Bl.text (b : Bl) : List UInt8 := 181 :: (b.inner ++ two (M.ck b.inner))
theorem Bl.inner_len (b : Bl) : b.inner.length = 7 + b.body.size := by
  simp [Bl.inner, two]; omega
theorem Bl.text_len (b : Bl) : b.text.length = 10 + b.body.size := by
  simp [Bl.text, b.inner_len, two]; omega
theorem Bl.len (b : Bl) (h : b.ok) : 1 ≤ b.body.size ∧ b.body.size ≤ 64 := by
  obtain ⟨h1, h2, h3, h4⟩ := h
  cases hr : b.raw with
  | true => have := h3 hr; omega
  | false => have := h4 hr; omega
/-- the byte at an index -/
def bat (T : List UInt8) (i : Nat) : Nat := (T.getD i 0).toNat
/-- the number of two bytes -/
def pat2 (T : List UInt8) (i : Nat) : Nat := 256 * bat T i + bat T (i + 1)
theorem bat_lt (T : List UInt8) (i : Nat) : bat T i < 256 := UInt8.toNat_lt _
/-- what stands at the beginning of bytes as a block -/
def brd (T : List UInt8) : Bl := ⟨pat2 T 2, bat T 1 == 0, pat2 T 4, ⟨((T.drop 8).take (pat2 T 6)).toArray⟩⟩
/-- the fields of a header are allowed -/
def hdOk (T : List UInt8) : Prop := 8 ≤ T.length ∧ bat T 0 = 181 ∧ bat T 1 ≤ 1 ∧ pat2 T 2 ≤ 39 ∧ (1 ≤ pat2 T 4 ∧ pat2 T 4 ≤ 64) ∧ (1 ≤ pat2 T 6 ∧ pat2 T 6 ≤ 64)
instance (T : List UInt8) : Decidable (hdOk T) := by unfold hdOk; exact inferInstance
def bOk (T : List UInt8) : Prop := hdOk T ∧ 10 + pat2 T 6 ≤ T.length ∧ (brd T).ok ∧ (brd T).text = T.take (10 + pat2 T 6)
instance (T : List UInt8) : Decidable (bOk T) := by unfold bOk; exact inferInstance
/-- the block with which bytes begin -/
def parse (T : List UInt8) : Option Bl := if bOk T then some (brd T) else none
theorem brd_size (T : List UInt8) (h : 10 + pat2 T 6 ≤ T.length) : (brd T).body.size = pat2 T 6 := by
  simp [brd, ByteArray.size]; omega
theorem parse_some {T : List UInt8} {b : Bl} (h : parse T = some b) : b = brd T ∧ bOk T := by
  unfold parse at h
  split at h
  · exact ⟨(Option.some.inj h).symm, by assumption⟩
  · cases h
theorem parse_none {T : List UInt8} (h : parse T = none) : ¬ bOk T := by
  unfold parse at h
  split at h
  · cases h
  · assumption
theorem Bl.kind_lt (b : Bl) : b.kind.toNat ≤ 1 ∧ (b.kind.toNat = 0 ↔ b.raw = true) := by
  unfold Bl.kind; cases b.raw <;> simp
theorem pr_two (n : Nat) (h : n < 65536) (x y : List UInt8) : pat2 (x ++ two n ++ y) x.length = n := by
  have e0 : (x ++ two n ++ y).getD x.length 0 = UInt8.ofNat (n / 256) := by simp [two, List.getD_eq_getElem?_getD]
  have e1 : (x ++ two n ++ y).getD (x.length + 1) 0 = UInt8.ofNat n := by simp [two, List.getD_eq_getElem?_getD]
  unfold pat2 bat
  rw [e0, e1]
  simp only [UInt8.toNat_ofNat']
  omega
/-- bytes that begin with the text of a block are parsed as it -/
theorem parse_text (b : Bl) (h : b.ok) (R : List UInt8) : parse (b.text ++ R) = some b := by
  have hl := b.len h
  obtain ⟨h1, h2, h3, h4⟩ := id h
  have b0 : bat (b.text ++ R) 0 = 181 := rfl
  have b1 : bat (b.text ++ R) 1 = b.kind.toNat := rfl
  have p2 : pat2 (b.text ++ R) 2 = b.n.toNat := by
    have := pr_two b.n.toNat (by omega) [181, b.kind] (two b.z.toNat ++ (two b.body.size ++ b.body.data.toList) ++ two (M.ck b.inner) ++ R)
    simpa [Bl.text, Bl.inner] using this
  have p4 : pat2 (b.text ++ R) 4 = b.z.toNat := by
    have := pr_two b.z.toNat (by omega) (181 :: b.kind :: two b.n.toNat) (two b.body.size ++ b.body.data.toList ++ two (M.ck b.inner) ++ R)
    simpa [Bl.text, Bl.inner, two] using this
  have p6 : pat2 (b.text ++ R) 6 = b.body.size := by
    have := pr_two b.body.size (by omega) (181 :: b.kind :: (two b.n.toNat ++ two b.z.toNat)) (b.body.data.toList ++ two (M.ck b.inner) ++ R)
    simpa [Bl.text, Bl.inner, two] using this
  have hk := b.kind_lt
  have hlen : (b.text ++ R).length = 10 + b.body.size + R.length := by rw [List.length_append, b.text_len]
  have e : brd (b.text ++ R) = b := by
    have e1 : ((b.text ++ R).drop 8).take (pat2 (b.text ++ R) 6) = b.body.data.toList := by
      rw [p6]
      simp only [Bl.text, Bl.inner, two, List.cons_append, List.nil_append, List.drop_succ_cons, List.drop_zero, List.append_assoc]
      rw [List.take_append_of_le_length (by simp)]
      rw [List.take_of_length_le (by simp)]
    unfold brd
    rw [e1, p2, p4, b1]
    cases b with
    | mk n raw z body =>
      have q1 : ((n.toNat : Nat) : Int) = n := by have := h1.1; simp only at this; omega
      have q2 : ((z.toNat : Nat) : Int) = z := by have := h2.1; simp only at this; omega
      simp only [q1, q2]
      congr 1
      cases raw <;> rfl
  unfold parse
  rw [if_pos, e]
  have hd : hdOk (b.text ++ R) := by
    unfold hdOk
    rw [b0, b1, p2, p4, p6]
    omega
  refine ⟨hd, by omega, by rw [e]; exact h, ?_⟩
  rw [e, p6, ← b.text_len, List.take_left']
  rfl
theorem parse_len {T : List UInt8} {b : Bl} (h : parse T = some b) : b.ok ∧ 10 + b.body.size ≤ T.length ∧ T.take (10 + b.body.size) = b.text := by
  obtain ⟨rfl, h1, h2, h3, h4⟩ := parse_some h
  rw [brd_size T h2]
  exact ⟨h3, h2, h4.symm⟩
/-- the bytes of blocks, one directly after the other -/
def txt (bs : List Bl) : List UInt8 := bs.flatMap Bl.text
/-- the sizes of blocks together -/
def zs : List Bl → Nat
  | [] => 0
  | b :: t => b.z.toNat + zs t
theorem txt_snoc (bs : List Bl) (b : Bl) : txt (bs ++ [b]) = txt bs ++ b.text := by simp [txt]
theorem txt_app (bs cs : List Bl) : txt (bs ++ cs) = txt bs ++ txt cs := by simp [txt]
theorem zs_app (bs cs : List Bl) : zs (bs ++ cs) = zs bs + zs cs := by
  induction bs with
  | nil => simp [zs]
  | cons b t ih => simp [zs, ih]; omega
theorem zs_snoc (bs : List Bl) (b : Bl) : zs (bs ++ [b]) = zs bs + b.z.toNat := by rw [zs_app]; simp [zs]
/-- bytes begin with these blocks, which are numbered from 0 on -/
def Rdg (S : List UInt8) (bs : List Bl) : Prop := (∀ (i : Nat) (b : Bl), bs[i]? = some b → b.ok ∧ b.n = (i : Int)) ∧ S.take (txt bs).length = txt bs ∧ (txt bs).length ≤ S.length
theorem Rdg.nil (S : List UInt8) : Rdg S [] := ⟨fun i b h => by simp at h, by simp [txt], by simp [txt]⟩
/-- the next block -/
theorem Rdg.next {S : List UInt8} {bs : List Bl} (h : Rdg S bs) {b : Bl} (hp : parse (S.drop (txt bs).length) = some b) (hn : b.n = (bs.length : Int)) : Rdg S (bs ++ [b]) := by
  obtain ⟨h1, h2, h3⟩ := h
  obtain ⟨p1, p2, p3⟩ := parse_len hp
  rw [List.length_drop] at p2
  refine ⟨fun i c hc => ?_, ?_, ?_⟩
  · rw [List.getElem?_append] at hc
    split at hc
    · exact h1 i c hc
    · have hi : i = bs.length := by
        rw [List.getElem?_eq_some_iff] at hc
        obtain ⟨hh, _⟩ := hc
        simp at hh
        omega
      subst hi
      simp at hc
      subst hc
      exact ⟨p1, hn⟩
  · rw [txt_snoc, List.length_append, List.take_add, h2, b.text_len, p3]
  · rw [txt_snoc, List.length_append, b.text_len]; omega
theorem Rdg.take {S : List UInt8} {bs : List Bl} (h : Rdg S bs) (k : Nat) : Rdg S (bs.take k) := by
  obtain ⟨h1, h2, h3⟩ := h
  have e : txt bs = txt (bs.take k) ++ txt (bs.drop k) := by rw [← txt_app, List.take_append_drop]
  have hl : (txt (bs.take k)).length ≤ (txt bs).length := by rw [e, List.length_append]; omega
  refine ⟨fun i b hb => ?_, ?_, by omega⟩
  · rw [List.getElem?_take] at hb
    split at hb
    · exact h1 i b hb
    · cases hb
  · have : S.take (txt (bs.take k)).length = (S.take (txt bs).length).take (txt (bs.take k)).length := by
      rw [List.take_take, Nat.min_eq_left hl]
    rw [this, h2, e, List.take_left']
    rfl
/-- the block behind the first k ones -/
theorem Rdg.at_ {S : List UInt8} {bs : List Bl} (h : Rdg S bs) {k : Nat} {b : Bl} (hk : bs[k]? = some b) : parse (S.drop (txt (bs.take k)).length) = some b := by
  have hok := (h.1 k b hk).1
  obtain ⟨h1, h2, h3⟩ := h.take (k + 1)
  have hlt : k < bs.length := by
    rw [List.getElem?_eq_some_iff] at hk
    exact hk.1
  have e : bs.take (k + 1) = bs.take k ++ [b] := by
    rw [List.take_add_one, hk]; rfl
  rw [e] at h2 h3
  rw [txt_snoc, List.length_append] at h2 h3
  have e2 : S = txt (bs.take k) ++ b.text ++ S.drop ((txt (bs.take k)).length + b.text.length) := by
    have := List.take_append_drop ((txt (bs.take k)).length + b.text.length) S
    rw [h2] at this
    exact this.symm
  have e3 : S.drop (txt (bs.take k)).length = b.text ++ S.drop ((txt (bs.take k)).length + b.text.length) := by
    conv => lhs; rw [e2]
    rw [List.append_assoc, List.drop_left']
    rfl
  rw [e3]
  exact parse_text b hok _
/-- two readings of the same bytes agree -/
theorem Rdg.det {S : List UInt8} {bs cs : List Bl} (h : Rdg S bs) (g : Rdg S cs) : ∀ k, k ≤ bs.length → k ≤ cs.length → bs.take k = cs.take k
  | 0, _, _ => by simp
  | k + 1, hb, hc => by
    have ih := Rdg.det h g k (by omega) (by omega)
    have e1 := h.at_ (List.getElem?_eq_getElem (by omega : k < bs.length))
    have e2 := g.at_ (List.getElem?_eq_getElem (by omega : k < cs.length))
    rw [ih] at e1
    rw [e1] at e2
    have e3 := Option.some.inj e2
    rw [List.take_succ_eq_append_getElem (by omega), List.take_succ_eq_append_getElem (by omega), ih, e3]
/-- how a reading ends: 0: behind the last byte; 1: no block; 2: its number is wrong; 3: it is too much data -/
def Why (S : List UInt8) (bs : List Bl) (c : Nat) : Prop :=
  (c = 0 ∧ (txt bs).length = S.length) ∨ ((txt bs).length < S.length ∧ ((c = 1 ∧ parse (S.drop (txt bs).length) = none) ∨ ∃ b, parse (S.drop (txt bs).length) = some b ∧ ((c = 2 ∧ b.n ≠ (bs.length : Int)) ∨ (c = 3 ∧ b.n = (bs.length : Int) ∧ 2000 < zs bs + b.z.toNat))))
structure Stop (S : List UInt8) (bs : List Bl) (c : Nat) : Prop where
  brd : Rdg S bs
  le : zs bs ≤ 2000
  why : Why S bs c
theorem text_pos (b : Bl) : 0 < b.text.length := by rw [b.text_len]; omega
theorem txt_take_lt {bs : List Bl} {k : Nat} {b : Bl} (h : bs[k]? = some b) : (txt (bs.take k)).length < (txt bs).length := by
  have hlt : k < bs.length := by
    rw [List.getElem?_eq_some_iff] at h
    exact h.1
  have e : txt bs = txt (bs.take k) ++ txt (bs.drop k) := by rw [← txt_app, List.take_append_drop]
  have e2 : bs.drop k = bs[k] :: bs.drop (k + 1) := List.drop_eq_getElem_cons hlt
  have := text_pos bs[k]
  rw [e, e2, List.length_append]
  simp only [txt, List.flatMap_cons, List.length_append]
  omega
theorem zs_take_le (bs : List Bl) (k : Nat) : zs (bs.take k) ≤ zs bs := by
  have e : bs = bs.take k ++ bs.drop k := (List.take_append_drop k bs).symm
  have : zs bs = zs (bs.take k) + zs (bs.drop k) := by
    conv => lhs; rw [e]
    rw [zs_app]
  omega
/-- there is one way in which a reading ends -/
theorem Stop.le_of {S : List UInt8} {bs cs : List Bl} {c d : Nat} (h : Stop S bs c) (g : Rdg S cs) (gz : zs cs ≤ 2000) : cs.length ≤ bs.length := by
  rcases Nat.lt_or_ge bs.length cs.length with hlt | hge
  · exfalso
    have e := h.brd.det g bs.length (Nat.le_refl _) (by omega)
    rw [List.take_length] at e
    have hk : cs[bs.length]? = some cs[bs.length] := List.getElem?_eq_getElem hlt
    have hp := g.at_ hk
    have hn := (g.1 _ _ hk).2
    rw [← e] at hp
    have hl := txt_take_lt hk
    rw [← e] at hl
    have hz := zs_take_le cs (bs.length + 1)
    rw [List.take_add_one, hk, ← e] at hz
    have hz2 : zs (bs ++ [cs[bs.length]]) ≤ zs cs := hz
    rw [zs_snoc] at hz2
    have h3 := g.2.2
    rcases h.why with ⟨_, h0⟩ | ⟨_, ⟨_, h1⟩ | ⟨b, h1, ⟨_, h2⟩ | ⟨_, _, h2⟩⟩⟩
    · omega
    · rw [h1] at hp; cases hp
    · rw [h1] at hp
      obtain rfl := Option.some.inj hp
      exact h2 hn
    · rw [h1] at hp
      obtain rfl := Option.some.inj hp
      omega
  · exact hge
theorem Stop.one {S : List UInt8} {bs cs : List Bl} {c d : Nat} (h : Stop S bs c) (g : Stop S cs d) : bs = cs ∧ c = d := by
  have l1 := h.le_of (d := d) g.brd g.le
  have l2 := g.le_of (d := c) h.brd h.le
  have hl : bs.length = cs.length := by omega
  have e := h.brd.det g.brd bs.length (Nat.le_refl _) (by omega)
  rw [List.take_length, hl, List.take_length] at e
  refine ⟨e, ?_⟩
  subst e
  rcases h.why with ⟨a0, h0⟩ | ⟨a0, ⟨a1, h1⟩ | ⟨b, h1, ⟨a2, h2⟩ | ⟨a2, a3, h2⟩⟩⟩ <;> rcases g.why with ⟨b0, g0⟩ | ⟨b0, ⟨b1, g1⟩ | ⟨b', g1, ⟨b2, g2⟩ | ⟨b2, b3, g2⟩⟩⟩ <;> first | omega | (exfalso; rw [g1] at h1; cases h1; done) | (rw [g1] at h1; obtain rfl := Option.some.inj h1; omega)
/-- each reading ends -/
theorem stop_from (S : List UInt8) : ∀ (m : Nat) (bs : List Bl), Rdg S bs → zs bs ≤ 2000 → S.length - (txt bs).length ≤ m → ∃ cs c, Stop S cs c
  | 0, bs, h, hz, hm => ⟨bs, 0, h, hz, Or.inl ⟨rfl, by have := h.2.2; omega⟩⟩
  | m + 1, bs, h, hz, hm => by
    by_cases hl : (txt bs).length < S.length
    · cases hp : parse (S.drop (txt bs).length) with
      | none => exact ⟨bs, 1, h, hz, Or.inr ⟨hl, Or.inl ⟨rfl, hp⟩⟩⟩
      | some b =>
        by_cases hn : b.n = (bs.length : Int)
        · by_cases h2 : 2000 < zs bs + b.z.toNat
          · exact ⟨bs, 3, h, hz, Or.inr ⟨hl, Or.inr ⟨b, hp, Or.inr ⟨rfl, hn, h2⟩⟩⟩⟩
          · refine stop_from S m (bs ++ [b]) (h.next hp hn) (by rw [zs_snoc]; omega) ?_
            rw [txt_snoc, List.length_append]
            have := text_pos b
            omega
        · exact ⟨bs, 2, h, hz, Or.inr ⟨hl, Or.inr ⟨b, hp, Or.inl ⟨rfl, hn⟩⟩⟩⟩
    · exact ⟨bs, 0, h, hz, Or.inl ⟨rfl, by have := h.2.2; omega⟩⟩
theorem stop_ex (S : List UInt8) : ∃ cs c, Stop S cs c := stop_from S S.length [] (Rdg.nil S) (by simp [zs]) (by omega)
theorem Stop.code {S : List UInt8} {bs : List Bl} {c : Nat} (h : Stop S bs c) : c ≤ 3 := by
  rcases h.why with ⟨a0, h0⟩ | ⟨a0, ⟨a1, h1⟩ | ⟨b, h1, ⟨a2, h2⟩ | ⟨a2, a3, h2⟩⟩⟩ <;> omega
theorem Rdg.len_le {S : List UInt8} {bs : List Bl} (h : Rdg S bs) : bs.length ≤ 40 := by
  rcases Nat.lt_or_ge 40 bs.length with hlt | hge
  · exfalso
    obtain ⟨⟨h1, _⟩, h2⟩ := h.1 40 bs[40] (List.getElem?_eq_getElem hlt)
    omega
  · exact hge
theorem Rdg.txt_le {S : List UInt8} {bs : List Bl} (h : Rdg S bs) : (txt bs).length ≤ 74 * bs.length := by
  have key : ∀ l : List Bl, (∀ b ∈ l, b.ok) → (txt l).length ≤ 74 * l.length := by
    intro l
    induction l with
    | nil => intro _; simp [txt]
    | cons b t ih =>
      intro hb
      have h1 := ih (fun c hc => hb c (List.mem_cons_of_mem _ hc))
      have h2 := b.len (hb b List.mem_cons_self)
      have h3 := b.text_len
      have e : txt (b :: t) = b.text ++ txt t := by simp [txt]
      rw [e, List.length_append, List.length_cons]
      omega
  refine key bs fun b hb => ?_
  obtain ⟨i, hi, rfl⟩ := List.getElem_of_mem hb
  exact (h.1 i _ (List.getElem?_eq_getElem hi)).1
end

section
open Go.ChangeShapes Go.WideShapes Go.ChangeAt Go.RowKit Go.Joins
set_option linter.unusedVariables false

/-- the two numbers of a checksum behind k bytes -/
def SumAt (s : ByteArray) (k x y : Nat) : Prop := x = M.sm (s.data.toList.take k) % 255 ∧ y = M.sw (s.data.toList.take k) % 255
theorem SumAt.next {s : ByteArray} {k x y : Nat} (h : SumAt s k x y) (hk : k < s.size) : SumAt s (k + 1) ((x + (s[k]).toNat) % 255) ((y + (x + (s[k]).toNat) % 255) % 255) := by
  obtain ⟨rfl, rfl⟩ := h
  rw [SumAt, take_snoc s k hk, M.sm_snoc, M.sw_snoc]
  omega
theorem SumAt.whole {s : ByteArray} {k x y : Nat} (h : SumAt s k x y) (hk : s.size ≤ k) : 256 * y + x = M.ck s.data.toList := by
  obtain ⟨rfl, rfl⟩ := h
  rw [List.take_of_length_le (by simpa using hk), M.ck]

theorem ck_end1 {x y K : Nat} (h : 256 * y + x = K) : (y : Int) * 256 + x = K := by omega
theorem ck_end2 {x y K : Nat} (h : 256 * y + x = K) : 256 * (y : Int) + x = K := by omega

theorem c_SumOf (s : ByteArray) (w : World) (hs : s.size ≤ maxLen) : Calls Tryz.prog 106 #[.string s] w (Same (.int .i64 (M.ck s.data.toList)) w) := by
  unfold maxLen at hs
  go_enter Tryz.func106, Tryz.ntmps106
  go_wp2_with fail
  go_loop [3, 4, 8] (fun a b i => ∃ k x y : Nat, k ≤ s.size ∧ i = .int .i64 k ∧ a = .int .i64 x ∧ b = .int .i64 y ∧ x < 255 ∧ y < 255 ∧ Hid (SumAt s k x y)) (fun _ _ i => s.size - (intOf i).toNat)
  case atStart => exact ⟨0, 0, 0, Nat.zero_le _, rfl, rfl, rfl, by omega, by omega, hid ⟨rfl, rfl⟩⟩
  case round =>
    obtain ⟨k, x, y, hk, rfl, rfl, rfl, hx, hy, HK⟩ := hrel
    by_cases hlt : k < s.size
    · have hb8 := byte_le s k hlt
      have HN := hid (HK.out.next hlt)
      go_wp2
      go_round
      case rel => exact ⟨k + 1, (x + (s[k]).toNat) % 255, (y + (x + (s[k]).toNat) % 255) % 255, by omega, by go_num, vint (by omega), vint (by omega), by omega, by omega, HN⟩
      case measure => simp [intOf]; omega
    · have HW := hid (HK.out.whole (by omega))
      go_wp2
      go_ret
      exact ⟨ret_int (ck_end1 HW.out), rfl⟩

theorem c_sSumOf (s : ByteArray) (w : World) (hs : s.size ≤ maxLen) : Calls Tryz.prog 103 #[.string s] w (Same (.int .i64 (M.ck s.data.toList)) w) := by
  unfold maxLen at hs
  go_enter Tryz.func103, Tryz.ntmps103
  go_wp2_with fail
  go_loop [3, 4, 5] (fun a b i => ∃ k x y : Nat, k ≤ s.size ∧ i = .int .i64 k ∧ a = .int .i64 x ∧ b = .int .i64 y ∧ x < 255 ∧ y < 255 ∧ Hid (SumAt s k x y)) (fun _ _ i => s.size - (intOf i).toNat)
  case atStart => exact ⟨0, 0, 0, Nat.zero_le _, rfl, rfl, rfl, by omega, by omega, hid ⟨rfl, rfl⟩⟩
  case round =>
    obtain ⟨k, x, y, hk, rfl, rfl, rfl, hx, hy, HK⟩ := hrel
    by_cases hlt : k < s.size
    · have hb8 := byte_le s k hlt
      have HN := hid (HK.out.next hlt)
      go_wp2
      go_round
      case rel => exact ⟨k + 1, (x + (s[k]).toNat) % 255, (y + (x + (s[k]).toNat) % 255) % 255, by omega, by go_num, vint (by omega), vint (by omega), by omega, by omega, HN⟩
      case measure => simp [intOf]; omega
    · have HW := hid (HK.out.whole (by omega))
      go_wp2
      go_ret
      exact ⟨ret_int (ck_end2 HW.out), rfl⟩
end

section
open Go.ChangeShapes Go.WideShapes Go.ChangeAt Go.RowKit Go.Joins
set_option linter.unusedVariables false

theorem y_elem {w : World} {B : Nat} {e : TypeId} {size n : Nat} {v : Value} {xs : List Value} (h : w.ownsRow B e size v n xs) (b : Nat) (hb : v.ownBlock = some b) : ∃ cs, w.heap[b]? = some (.cells cs e (0, 0)) := by
  rcases h.2 with ⟨rfl, _⟩ | ⟨g, cap', cur, rfl, _, hh, _⟩
  · simp [Value.ownBlock] at hb
  · have e3 : g = b := by simpa [Value.ownBlock] using hb
    subst e3
    exact ⟨cur, hh⟩
theorem y_apart_blk {w : World} {B : Nat} {e t : TypeId} {size n b : Nat} {v : Value} {xs : List Value} {cs : Array Value} (h : w.ownsRow B e size v n xs) (hk : Blk w b t cs) (ht : t ≠ e) : some b ≠ v.ownBlock := by
  intro e3
  obtain ⟨c1, h3⟩ := y_elem h b e3.symm
  have h5 := hk.symm.trans h3
  simp at h5
  exact ht h5.2
/-- a box of another type stays, whatever is done to the row -/
theorem y_box {w w' : World} {B b : Nat} {e t : TypeId} {size n : Nat} {v : Value} {xs : List Value} {cs : Array Value} (hk : Blk w b t cs) (ho : w.ownsRow B e size v n xs) (ht : t ≠ e) (hg : w.grownBy w' v.ownBlock) : Blk w' b t cs := hk.grown hg (y_apart_blk ho hk ht)
theorem y_bel {w W w' : World} {B : Nat} {e : TypeId} {size n : Nat} {v : Value} {xs : List Value} (hB : Below w.heap.size w W) (ho : W.ownsRow B e size v n xs) (hw : w.heap.size ≤ B) (hg : W.grownBy w' v.ownBlock) : Below w.heap.size w w' :=
  hB.trans (below_of_grown hg hB.size (fun g e => by have := (ho.lt g e).1; omega))
theorem y_mono {w : World} {B B' : Nat} {e : TypeId} {size : Nat} {v : Value} {n : Nat} {xs : List Value} (h : w.ownsRow B e size v n xs) (hB : B' ≤ B) : w.ownsRow B' e size v n xs := by
  refine ⟨h.1, ?_⟩
  rcases h.2 with h1 | ⟨g, cap', cur, e1, hb, h2⟩
  · exact .inl h1
  · exact .inr ⟨g, cap', cur, e1, by omega, h2⟩
theorem Blk.cells4y {w : World} {g : Nat} {t : TypeId} {a b c d : Value} (h : Blk w g t #[a, b, c, d]) : w.cell? ⟨g, 0, none⟩ = some a ∧ w.cell? ⟨g, 1, none⟩ = some b ∧ w.cell? ⟨g, 2, none⟩ = some c ∧ w.cell? ⟨g, 3, none⟩ = some d := ⟨h.cell 0, h.cell 1, h.cell 2, h.cell 3⟩
theorem Blk.cells5y {w : World} {g : Nat} {t : TypeId} {a b c d e : Value} (h : Blk w g t #[a, b, c, d, e]) : w.cell? ⟨g, 0, none⟩ = some a ∧ w.cell? ⟨g, 1, none⟩ = some b ∧ w.cell? ⟨g, 2, none⟩ = some c ∧ w.cell? ⟨g, 3, none⟩ = some d ∧ w.cell? ⟨g, 4, none⟩ = some e := ⟨h.cell 0, h.cell 1, h.cell 2, h.cell 3, h.cell 4⟩
theorem Tryz.info_u8y : (Tryz.prog.info? 5).map (fun i => (i.zero, i.size, i.bytes)) = some (some (.int .u8 0), 1, 1) := by kernel_rfl
/-! ### Regions whose operations read, or call what only makes new memory: one walk in the order of the text -/
section
variable {P : Program} {ops : Array Oper} {S : World → Prop} {Q : Act → Prop} {rest : List Oper} {oi : Oper}

theorem qbegin {id : Nat} {Q : Exit → Act → World → Prop} {a : Act} {w : World} {l : List Oper} (hm : P.follows .mixedOrders = true) (hB : Region.lexB .any l.toArray = true) (hS : S w.drew)
    (h : wpQuiet P l.toArray S (fun a' => ∀ w', S w' → Q .normal a' w') l a) : (Code.region id l.toArray true).wp P Q a w :=
  wp_region_quiet (C := S) hm hB hS (by simpa using h)
/-- an operation that reads -/
theorem qk {v : Value} {a a' : Act} (h : wpQuiet P ops S Q rest a')
    (hw : Region.wanted oi (yielded ops a.tmps) = true := by rfl)
    (hy : ∀ w, S w → (execOp a.eval oi).run P w = .ok (.value v) w := by exact fun v hSw => by ((try dsimp only at hSw); go_simp; try with_reducible rfl))
    (ha : a.put oi.dst v = a' := by ((try simp only [Act.put, List.setIfInBounds_toArray, List.set_cons_zero, List.set_cons_succ]); rfl)) : wpQuiet P ops S Q (oi :: rest) a := by
  subst ha
  refine wpQuiet_step fun K hK => ?_
  rw [if_pos hw]
  exact ⟨v, fun w hS => by unfold Oper.quietAt; rw [hy w hS]; exact ⟨rfl, rfl⟩, hK _ h⟩
/-- one that is not wanted -/
theorem qu {a a' : Act} (h : wpQuiet P ops S Q rest a')
    (hw : Region.wanted oi (yielded ops a.tmps) = false := by rfl)
    (ha : a.put oi.dst undef = a' := by ((try simp only [Act.put, List.setIfInBounds_toArray, List.set_cons_zero, List.set_cons_succ]); rfl)) : wpQuiet P ops S Q (oi :: rest) a := by
  subst ha
  refine wpQuiet_step fun K hK => ?_
  rw [if_neg (by rw [hw]; simp)]
  exact hK _ h
/-- a call that only makes new memory -/
theorem qc {v : Value} {f : FuncId} {args : Array Value} {a a' : Act} (hc : ∀ w, S w → Calls P f args w fun e w' => e = .returned v ∧ Below w.heap.size w w') (hk : ∀ w w', Below w.heap.size w w' → S w → S w') (h : wpQuiet P ops S Q rest a')
    (hw : Region.wanted oi (yielded ops a.tmps) = true := by rfl)
    (he : ∀ w, S w → (execOp a.eval oi).run P w = .ok (.enter f args) w := by exact fun v hSw => by ((try dsimp only at hSw); go_simp; first | done | exact ⟨rfl, rfl⟩ | with_reducible rfl))
    (ha : a.put oi.dst v = a' := by ((try simp only [Act.put, List.setIfInBounds_toArray, List.set_cons_zero, List.set_cons_succ]); rfl)) : wpQuiet P ops S Q (oi :: rest) a := by
  subst ha
  refine wpQuiet_step fun K hK => ?_
  rw [if_pos hw]
  exact ⟨v, fun w hS => by unfold Oper.quietAt; rw [he w hS]; exact ⟨rfl, (hc w hS).mono fun e w' ⟨h1, h2⟩ => ⟨h1, hk w w' h2 hS⟩⟩, hK _ h⟩
end
theorem same_bel {P : Program} {f : FuncId} {args : Array Value} {v : Value} {w : World} (h : Calls P f args w (fun e w' => e = .returned v ∧ w = w')) : Calls P f args w fun e w' => e = .returned v ∧ Below w.heap.size w w' :=
  h.mono fun e w' ⟨h1, h2⟩ => ⟨h1, h2 ▸ Below.refl _ _⟩
/-- 'out = append(out, s...)' of a string's bytes, as a step of a region -/
theorem y_step_str {P : Program} {w : World} {ops : Array Oper} {o : Oper} {a : Act} {K : Act → World → Prop} {Q : Exit → Act → World → Prop} {E : Prop} (hgd : o.guard = none) (sl x : Operand) (t u : TypeId)
    (ho : o.op = .call { callee := .builtin .append, args := #[sl, x], argTypes := #[t, u] }) (B : Nat) (e : TypeId) (ht : P.underlying t = some (.slice e)) (hu : P.underlying u = some .string)
    (hinfo : (P.info? e).map (fun i => (i.zero, i.size, i.bytes)) = some (some (.int .u8 0), 1, 1)) (v : Value) (n : Nat) (l : List UInt8) (hs : a.eval sl = v) (hown : w.ownsRow B e 1 v n (l.map vb)) (s : ByteArray) (hx : a.eval x = .string s)
    (hn : n + s.size ≤ 100000000000) (hB : B ≤ w.heap.size)
    (h : ∀ v' w', w'.ownsRow B e 1 v' (n + s.size) ((l ++ s.data.toList).map vb) → Below B w w' → w.grownBy w' v.ownBlock → K (a.put o.dst v') w') : if Region.wanted o (yielded ops a.tmps) = true then Oper.wp P o a w K Q else E := by
  have hw : Region.wanted o (yielded ops a.tmps) = true := by simp [Region.wanted, hgd]
  rw [if_pos hw]
  obtain ⟨i0, hi, hz0, hz1, hz2⟩ := info_parts hinfo
  obtain ⟨v', w', hr, hown', hg, _⟩ := Lib.run_append_own_string (P := P) w B t u o.type e i0 ht hu hi hz0 hz1 hz2 v n (l.map vb) hown s (by unfold maxLen; omega) (by omega) hB
  unfold Oper.wp execOp
  simp only [ho, resolve, invoke, builtin, Sem.run_bind, Sem.run_pure, Result.andThen_ok, List.map_toArray, List.map_cons, List.map_nil, hs, hx, hr]
  exact h v' w' (by rw [List.map_append]; exact hown') (below_of_grown hg hB (fun g hg => (hown.lt g hg).1)) hg
end

section
open Go.ChangeShapes Go.WideShapes Go.ChangeAt Go.RowKit Go.Joins
set_option linter.unusedVariables false
set_option linter.unusedSimpArgs false

theorem run_two {P : Program} {e src dst : TypeId} (hs : P.underlying src = some (.slice e)) (he : P.underlying e = some (.int .u8)) (hd : P.underlying dst = some .string) (n : Nat) (w : World) :
    (convert src dst (.slice (some ⟨w.heap.size, 0, none⟩) 2 2)).run P (w.alloc (.cells #[.int .u8 ((n : Int) / 256 % 256), .int .u8 ((n : Int) % 256)] e)) = .ok (.string (str (two n))) (w.alloc (.cells #[.int .u8 ((n : Int) / 256 % 256), .int .u8 ((n : Int) % 256)] e)) := by
  refine run_convert_bytes_back (l := two n) _ src dst e ⟨w.heap.size, 0, none⟩ 2 hs he hd ?_
  intro j hj
  have h0 : (((UInt8.ofNat (n / 256)).toNat : Nat) : Int) = (n : Int) / 256 % 256 := by rw [UInt8.toNat_ofNat']; omega
  have h1 : (((UInt8.ofNat n).toNat : Nat) : Int) = (n : Int) % 256 := by rw [UInt8.toNat_ofNat']; omega
  refine two_new w _ _ e j _ ?_
  match j, hj with
  | 0, _ => simp only [two, List.getElem_cons_zero, h0]; rfl
  | 1, _ => simp only [two, List.getElem_cons_succ, List.getElem_cons_zero, h1]; rfl

set_option maxRecDepth 100000 in
theorem c_l4Two (n : Nat) (w : World) (h : n ≤ 9223372036854775807) : Calls Tryz.prog 102 #[.int .i64 (n : Int)] w fun e w' => e = .returned (.string (str (two n))) ∧ Below w.heap.size w w' := by
  have hc := run_two Tryz.underlying98 Tryz.underlying5 Tryz.underlying9 n
  go_enter Tryz.func102, Tryz.ntmps102
  go_wp2
  go_ret
  exact ⟨rfl, by exact obB⟩

set_option maxRecDepth 100000 in
theorem c_twoBytes (n : Nat) (w : World) (h : n ≤ 9223372036854775807) : Calls Tryz.prog 105 #[.int .i64 (n : Int)] w fun e w' => e = .returned (.string (str (two n))) ∧ Below w.heap.size w w' := by
  have hc := run_two Tryz.underlying98 Tryz.underlying5 Tryz.underlying9 n
  go_enter Tryz.func105, Tryz.ntmps105
  go_wp2
  go_ret
  exact ⟨rfl, by exact obB⟩

theorem c_headerOf (b : Bl) (w : World) : Calls Tryz.prog 67 #[.agg #[.int .i64 b.n, .bool b.raw, .int .i64 b.z, .string b.body]] w fun e w' => e = .returned (.agg #[.int .i64 181, .int .i64 (b.kind.toNat : Int), .int .i64 b.n, .int .i64 b.z, .int .i64 (b.body.size : Int)]) ∧ Below w.heap.size w w' := by
  have h0 : b.raw = false → (b.kind.toNat : Int) = 1 := fun h => by simp [Bl.kind, h]
  have h1 : b.raw = true → (b.kind.toNat : Int) = 0 := fun h => by simp [Bl.kind, h]
  have H0 := hid h0
  have H1 := hid h1
  clear h0 h1
  go_enter Tryz.func67, Tryz.ntmps67
  go_wp2_with fail
  · rename_i hr
    rw [H1.out hr]
    exact bodyPost_ret (v := .agg #[.int .i64 181, .int .i64 0, .int .i64 b.n, .int .i64 b.z, .int .i64 (b.body.size : Int)]) (by simp [results, Tryz.results67, go_sem]) rfl ⟨rfl, by exact obB⟩
  · rename_i hr
    rw [H0.out hr]
    exact bodyPost_ret (v := .agg #[.int .i64 181, .int .i64 1, .int .i64 b.n, .int .i64 b.z, .int .i64 (b.body.size : Int)]) (by simp [results, Tryz.results67, go_sem]) rfl ⟨rfl, by exact obB⟩

/-- the layout of a header, as the program's text lays it -/
def Lay (w : World) : Prop := ∃ t, w.heap[ 0 ]? = some (.cells #[.int .i64 1, .int .i64 181, .int .i64 181, .int .i64 1, .int .i64 0, .int .i64 1, .int .i64 2, .int .i64 0, .int .i64 39, .int .i64 2, .int .i64 1, .int .i64 64, .int .i64 2, .int .i64 1, .int .i64 64] t (0, 0))

theorem Lay.on {w w' : World} (h : Lay w) (hb : Below w.heap.size w w') : Lay w' := by
  obtain ⟨t, h⟩ := h
  exact ⟨t, (Blk.on (t := t) h hb)⟩

set_option maxHeartbeats 4000000 in
set_option maxRecDepth 100000 in
theorem c_appendTo (k n z m : Nat) (w : World) (hL : Lay w) (hk : k ≤ 1) (hn : n ≤ 39) (hz : z ≤ 64) (hm : m ≤ 64) : Calls Tryz.prog 104 #[.agg #[.int .i64 181, .int .i64 (k : Int), .int .i64 (n : Int), .int .i64 (z : Int), .int .i64 (m : Int)], .slice none 0 0] w fun e w' => ∃ v, e = .returned v ∧ w'.ownsRow w.heap.size 5 1 v 8 ((181 :: UInt8.ofNat k :: (two n ++ two z ++ two m)).map vb) ∧ Below w.heap.size w w' := by
  obtain ⟨tt, hg⟩ := hL.on (bel_alloc (Below.refl _ w) (.cells #[.int .i64 181, .int .i64 (k : Int), .int .i64 (n : Int), .int .i64 (z : Int), .int .i64 (m : Int)] 106))
  have i0 : ∀ W : World, (Instr.index 55 (.agg #[.int .i64 1, .int .i64 181, .int .i64 181, .int .i64 1, .int .i64 0, .int .i64 1, .int .i64 2, .int .i64 0, .int .i64 39, .int .i64 2, .int .i64 1, .int .i64 64, .int .i64 2, .int .i64 1, .int .i64 64]) (.int .i64 0)).run Tryz.prog W = .ok (.agg #[.int .i64 1, .int .i64 181, .int .i64 181]) W := fun _ => by kernel_rfl
  have i1 : ∀ W : World, (Instr.index 55 (.agg #[.int .i64 1, .int .i64 181, .int .i64 181, .int .i64 1, .int .i64 0, .int .i64 1, .int .i64 2, .int .i64 0, .int .i64 39, .int .i64 2, .int .i64 1, .int .i64 64, .int .i64 2, .int .i64 1, .int .i64 64]) (.int .i64 1)).run Tryz.prog W = .ok (.agg #[.int .i64 1, .int .i64 0, .int .i64 1]) W := fun _ => by kernel_rfl
  have i2 : ∀ W : World, (Instr.index 55 (.agg #[.int .i64 1, .int .i64 181, .int .i64 181, .int .i64 1, .int .i64 0, .int .i64 1, .int .i64 2, .int .i64 0, .int .i64 39, .int .i64 2, .int .i64 1, .int .i64 64, .int .i64 2, .int .i64 1, .int .i64 64]) (.int .i64 2)).run Tryz.prog W = .ok (.agg #[.int .i64 2, .int .i64 0, .int .i64 39]) W := fun _ => by kernel_rfl
  have i3 : ∀ W : World, (Instr.index 55 (.agg #[.int .i64 1, .int .i64 181, .int .i64 181, .int .i64 1, .int .i64 0, .int .i64 1, .int .i64 2, .int .i64 0, .int .i64 39, .int .i64 2, .int .i64 1, .int .i64 64, .int .i64 2, .int .i64 1, .int .i64 64]) (.int .i64 3)).run Tryz.prog W = .ok (.agg #[.int .i64 2, .int .i64 1, .int .i64 64]) W := fun _ => by kernel_rfl
  have i4 : ∀ W : World, (Instr.index 55 (.agg #[.int .i64 1, .int .i64 181, .int .i64 181, .int .i64 1, .int .i64 0, .int .i64 1, .int .i64 2, .int .i64 0, .int .i64 39, .int .i64 2, .int .i64 1, .int .i64 64, .int .i64 2, .int .i64 1, .int .i64 64]) (.int .i64 4)).run Tryz.prog W = .ok (.agg #[.int .i64 2, .int .i64 1, .int .i64 64]) W := fun _ => by kernel_rfl
  go_enter Tryz.func104, Tryz.ntmps104
  go_wp2_with (refine wpList_load_row rfl 55 _ rfl 0 rfl tt _ _ _ hg Tryz.underlying55 rfl (by kernel_rfl) ?_)
  clear hg
  obtain ⟨W, hW⟩ : ∃ W, W = w.alloc (.cells #[.int .i64 181, .int .i64 (k : Int), .int .i64 (n : Int), .int .i64 (z : Int), .int .i64 (m : Int)] 106) := ⟨_, rfl⟩
  have HH : Blk W w.heap.size 106 #[.int .i64 181, .int .i64 (k : Int), .int .i64 (n : Int), .int .i64 (z : Int), .int .i64 (m : Int)] := by rw [hW]; exact Blk.new w _ _
  have hbel : Below w.heap.size w W := by rw [hW]; exact bel_alloc (Below.refl _ w) _
  have HO : W.ownsRow w.heap.size 5 1 (.slice none 0 0) 0 (([] : List UInt8).map vb) := own_nil _ _ _
  rw [← hW]
  obtain ⟨B, hBe⟩ : ∃ B, B = w.heap.size := ⟨_, rfl⟩
  rw [← hBe] at HH HO ⊢
  have HBel := hid (show Below w.heap.size w W from hbel)
  have hlt : B < W.heap.size := HH.lt
  have hBe2 := hid hBe
  clear hW hbel hBe
  refine wp_loop_rounds 6 ?_
  obtain ⟨q0, q1, q2, q3, q4⟩ := HH.cells5y
  rw [rounds_succ]
  go_wp2_with fail
  have HF := Blk.new W 54 #[.int .i64 1, .int .i64 181, .int .i64 181]
  have HH2 := HH.alloc (.cells #[.int .i64 1, .int .i64 181, .int .i64 181] 54)
  have HO2 := HO.alloc (.cells #[.int .i64 1, .int .i64 181, .int .i64 181] 54)
  have HBel2 := hid (bel_alloc HBel.out (.cells #[.int .i64 1, .int .i64 181, .int .i64 181] 54))
  obtain ⟨fb0, hfb⟩ : ∃ fb, fb = W.heap.size := ⟨_, rfl⟩
  obtain ⟨Wf0, hWf0⟩ : ∃ Wf0, Wf0 = W.alloc (.cells #[.int .i64 1, .int .i64 181, .int .i64 181] 54) := ⟨_, rfl⟩
  rw [← hWf0, ← hfb] at HF
  rw [← hWf0] at HH2 HO2 HBel2
  rw [← hWf0, ← hfb]
  have hlt2 : B < Wf0.heap.size := HH2.lt
  have hltf : fb0 < Wf0.heap.size := HF.lt
  clear q0 q1 q2 q3 q4 HH HO HBel hlt hfb hWf0
  refine wp_loop_rounds 2 ?_
  obtain ⟨q0, q1, q2, q3, q4⟩ := HH2.cells5y
  obtain ⟨y0, y1, y2⟩ := HF.cells3
  rw [rounds_succ]
  go_wp2_with (at_builtin; refine app_byte rfl _ _ 98 rfl B 5 Tryz.underlying98 Tryz.info_u8y _ 0 [] rfl HO2 181 _ (by rfl) 1 rfl (by omega) (by omega) ?_; intro v0 W0 hown hbb hgg; have HH3 := y_box HH2 HO2 (by decide) hgg; have HF3 := y_box HF HO2 (by decide) hgg; have HBel3 := hid (y_bel HBel2.out HO2 (by have := hBe2.out; omega) hgg); clear q0 q1 q2 q3 q4 y0 y1 y2 hlt2 hltf hbb hgg HO2 HH2 HF HBel2; rename W0.ownsRow _ _ _ _ _ _ => HO2; rename Blk W0 B _ _ => HH2; rename Blk W0 fb0 _ _ => HF; rename Hid (Below _ _ W0) => HBel2; have hlt2 : B < W0.heap.size := HH2.lt; have hltf : fb0 < W0.heap.size := HF.lt)
  obtain ⟨q0, q1, q2, q3, q4⟩ := HH2.cells5y
  obtain ⟨y0, y1, y2⟩ := HF.cells3
  rw [rounds_succ]
  go_wp2_with fail
  clear q0 q1 q2 q3 q4 y0 y1 y2 HF hltf hlt2
  rename Blk W0 B _ _ => HH
  rename W0.ownsRow _ _ _ _ _ _ => HO
  rename Hid (Below _ _ W0) => HBel
  have hlt : B < W0.heap.size := HH.lt
  obtain ⟨q0, q1, q2, q3, q4⟩ := HH.cells5y
  rw [rounds_succ]
  go_wp2_with fail
  have HF := Blk.new W0 54 #[.int .i64 1, .int .i64 0, .int .i64 1]
  have HH2 := HH.alloc (.cells #[.int .i64 1, .int .i64 0, .int .i64 1] 54)
  have HO2 := HO.alloc (.cells #[.int .i64 1, .int .i64 0, .int .i64 1] 54)
  have HBel2 := hid (bel_alloc HBel.out (.cells #[.int .i64 1, .int .i64 0, .int .i64 1] 54))
  obtain ⟨fb1, hfb⟩ : ∃ fb, fb = W0.heap.size := ⟨_, rfl⟩
  obtain ⟨Wf1, hWf1⟩ : ∃ Wf1, Wf1 = W0.alloc (.cells #[.int .i64 1, .int .i64 0, .int .i64 1] 54) := ⟨_, rfl⟩
  rw [← hWf1, ← hfb] at HF
  rw [← hWf1] at HH2 HO2 HBel2
  rw [← hWf1, ← hfb]
  have hlt2 : B < Wf1.heap.size := HH2.lt
  have hltf : fb1 < Wf1.heap.size := HF.lt
  clear q0 q1 q2 q3 q4 HH HO HBel hlt hfb hWf1
  refine wp_loop_rounds 2 ?_
  obtain ⟨q0, q1, q2, q3, q4⟩ := HH2.cells5y
  obtain ⟨y0, y1, y2⟩ := HF.cells3
  rw [rounds_succ]
  go_wp2_with (at_builtin; refine app_byte rfl _ _ 98 rfl B 5 Tryz.underlying98 Tryz.info_u8y _ 1 [181] rfl HO2 (UInt8.ofNat k) _ (by rw [UInt8.toNat_ofNat']; omega) 1 rfl (by omega) (by omega) ?_; intro v1 W1 hown hbb hgg; have HH3 := y_box HH2 HO2 (by decide) hgg; have HF3 := y_box HF HO2 (by decide) hgg; have HBel3 := hid (y_bel HBel2.out HO2 (by have := hBe2.out; omega) hgg); clear q0 q1 q2 q3 q4 y0 y1 y2 hlt2 hltf hbb hgg HO2 HH2 HF HBel2; rename W1.ownsRow _ _ _ _ _ _ => HO2; rename Blk W1 B _ _ => HH2; rename Blk W1 fb1 _ _ => HF; rename Hid (Below _ _ W1) => HBel2; have hlt2 : B < W1.heap.size := HH2.lt; have hltf : fb1 < W1.heap.size := HF.lt)
  obtain ⟨q0, q1, q2, q3, q4⟩ := HH2.cells5y
  obtain ⟨y0, y1, y2⟩ := HF.cells3
  rw [rounds_succ]
  go_wp2_with fail
  clear q0 q1 q2 q3 q4 y0 y1 y2 HF hltf hlt2
  rename Blk W1 B _ _ => HH
  rename W1.ownsRow _ _ _ _ _ _ => HO
  rename Hid (Below _ _ W1) => HBel
  have hlt : B < W1.heap.size := HH.lt
  obtain ⟨q0, q1, q2, q3, q4⟩ := HH.cells5y
  rw [rounds_succ]
  go_wp2_with fail
  have HF := Blk.new W1 54 #[.int .i64 2, .int .i64 0, .int .i64 39]
  have HH2 := HH.alloc (.cells #[.int .i64 2, .int .i64 0, .int .i64 39] 54)
  have HO2 := HO.alloc (.cells #[.int .i64 2, .int .i64 0, .int .i64 39] 54)
  have HBel2 := hid (bel_alloc HBel.out (.cells #[.int .i64 2, .int .i64 0, .int .i64 39] 54))
  obtain ⟨fb2, hfb⟩ : ∃ fb, fb = W1.heap.size := ⟨_, rfl⟩
  obtain ⟨Wf2, hWf2⟩ : ∃ Wf2, Wf2 = W1.alloc (.cells #[.int .i64 2, .int .i64 0, .int .i64 39] 54) := ⟨_, rfl⟩
  rw [← hWf2, ← hfb] at HF
  rw [← hWf2] at HH2 HO2 HBel2
  rw [← hWf2, ← hfb]
  have hlt2 : B < Wf2.heap.size := HH2.lt
  have hltf : fb2 < Wf2.heap.size := HF.lt
  clear q0 q1 q2 q3 q4 HH HO HBel hlt hfb hWf2
  refine wp_loop_rounds 3 ?_
  obtain ⟨q0, q1, q2, q3, q4⟩ := HH2.cells5y
  obtain ⟨y0, y1, y2⟩ := HF.cells3
  rw [rounds_succ]
  go_wp2_with (at_builtin; refine app_byte rfl _ _ 98 rfl B 5 Tryz.underlying98 Tryz.info_u8y _ 2 [181, (UInt8.ofNat k)] rfl HO2 (UInt8.ofNat (n / 256)) _ (by rw [UInt8.toNat_ofNat']; omega) 1 rfl (by omega) (by omega) ?_; intro v2 W2 hown hbb hgg; have HH3 := y_box HH2 HO2 (by decide) hgg; have HF3 := y_box HF HO2 (by decide) hgg; have HBel3 := hid (y_bel HBel2.out HO2 (by have := hBe2.out; omega) hgg); clear q0 q1 q2 q3 q4 y0 y1 y2 hlt2 hltf hbb hgg HO2 HH2 HF HBel2; rename W2.ownsRow _ _ _ _ _ _ => HO2; rename Blk W2 B _ _ => HH2; rename Blk W2 fb2 _ _ => HF; rename Hid (Below _ _ W2) => HBel2; have hlt2 : B < W2.heap.size := HH2.lt; have hltf : fb2 < W2.heap.size := HF.lt)
  obtain ⟨q0, q1, q2, q3, q4⟩ := HH2.cells5y
  obtain ⟨y0, y1, y2⟩ := HF.cells3
  rw [rounds_succ]
  go_wp2_with (at_builtin; refine app_byte rfl _ _ 98 rfl B 5 Tryz.underlying98 Tryz.info_u8y _ 3 [181, (UInt8.ofNat k), (UInt8.ofNat (n / 256))] rfl HO2 (UInt8.ofNat n) _ (by rw [UInt8.toNat_ofNat']; omega) 1 rfl (by omega) (by omega) ?_; intro v3 W3 hown hbb hgg; have HH3 := y_box HH2 HO2 (by decide) hgg; have HF3 := y_box HF HO2 (by decide) hgg; have HBel3 := hid (y_bel HBel2.out HO2 (by have := hBe2.out; omega) hgg); clear q0 q1 q2 q3 q4 y0 y1 y2 hlt2 hltf hbb hgg HO2 HH2 HF HBel2; rename W3.ownsRow _ _ _ _ _ _ => HO2; rename Blk W3 B _ _ => HH2; rename Blk W3 fb2 _ _ => HF; rename Hid (Below _ _ W3) => HBel2; have hlt2 : B < W3.heap.size := HH2.lt; have hltf : fb2 < W3.heap.size := HF.lt)
  obtain ⟨q0, q1, q2, q3, q4⟩ := HH2.cells5y
  obtain ⟨y0, y1, y2⟩ := HF.cells3
  rw [rounds_succ]
  go_wp2_with fail
  clear q0 q1 q2 q3 q4 y0 y1 y2 HF hltf hlt2
  rename Blk W3 B _ _ => HH
  rename W3.ownsRow _ _ _ _ _ _ => HO
  rename Hid (Below _ _ W3) => HBel
  have hlt : B < W3.heap.size := HH.lt
  obtain ⟨q0, q1, q2, q3, q4⟩ := HH.cells5y
  rw [rounds_succ]
  go_wp2_with fail
  have HF := Blk.new W3 54 #[.int .i64 2, .int .i64 1, .int .i64 64]
  have HH2 := HH.alloc (.cells #[.int .i64 2, .int .i64 1, .int .i64 64] 54)
  have HO2 := HO.alloc (.cells #[.int .i64 2, .int .i64 1, .int .i64 64] 54)
  have HBel2 := hid (bel_alloc HBel.out (.cells #[.int .i64 2, .int .i64 1, .int .i64 64] 54))
  obtain ⟨fb3, hfb⟩ : ∃ fb, fb = W3.heap.size := ⟨_, rfl⟩
  obtain ⟨Wf3, hWf3⟩ : ∃ Wf3, Wf3 = W3.alloc (.cells #[.int .i64 2, .int .i64 1, .int .i64 64] 54) := ⟨_, rfl⟩
  rw [← hWf3, ← hfb] at HF
  rw [← hWf3] at HH2 HO2 HBel2
  rw [← hWf3, ← hfb]
  have hlt2 : B < Wf3.heap.size := HH2.lt
  have hltf : fb3 < Wf3.heap.size := HF.lt
  clear q0 q1 q2 q3 q4 HH HO HBel hlt hfb hWf3
  refine wp_loop_rounds 3 ?_
  obtain ⟨q0, q1, q2, q3, q4⟩ := HH2.cells5y
  obtain ⟨y0, y1, y2⟩ := HF.cells3
  rw [rounds_succ]
  go_wp2_with (at_builtin; refine app_byte rfl _ _ 98 rfl B 5 Tryz.underlying98 Tryz.info_u8y _ 4 [181, (UInt8.ofNat k), (UInt8.ofNat (n / 256)), (UInt8.ofNat n)] rfl HO2 (UInt8.ofNat (z / 256)) _ (by rw [UInt8.toNat_ofNat']; omega) 1 rfl (by omega) (by omega) ?_; intro v4 W4 hown hbb hgg; have HH3 := y_box HH2 HO2 (by decide) hgg; have HF3 := y_box HF HO2 (by decide) hgg; have HBel3 := hid (y_bel HBel2.out HO2 (by have := hBe2.out; omega) hgg); clear q0 q1 q2 q3 q4 y0 y1 y2 hlt2 hltf hbb hgg HO2 HH2 HF HBel2; rename W4.ownsRow _ _ _ _ _ _ => HO2; rename Blk W4 B _ _ => HH2; rename Blk W4 fb3 _ _ => HF; rename Hid (Below _ _ W4) => HBel2; have hlt2 : B < W4.heap.size := HH2.lt; have hltf : fb3 < W4.heap.size := HF.lt)
  obtain ⟨q0, q1, q2, q3, q4⟩ := HH2.cells5y
  obtain ⟨y0, y1, y2⟩ := HF.cells3
  rw [rounds_succ]
  go_wp2_with (at_builtin; refine app_byte rfl _ _ 98 rfl B 5 Tryz.underlying98 Tryz.info_u8y _ 5 [181, (UInt8.ofNat k), (UInt8.ofNat (n / 256)), (UInt8.ofNat n), (UInt8.ofNat (z / 256))] rfl HO2 (UInt8.ofNat z) _ (by rw [UInt8.toNat_ofNat']; omega) 1 rfl (by omega) (by omega) ?_; intro v5 W5 hown hbb hgg; have HH3 := y_box HH2 HO2 (by decide) hgg; have HF3 := y_box HF HO2 (by decide) hgg; have HBel3 := hid (y_bel HBel2.out HO2 (by have := hBe2.out; omega) hgg); clear q0 q1 q2 q3 q4 y0 y1 y2 hlt2 hltf hbb hgg HO2 HH2 HF HBel2; rename W5.ownsRow _ _ _ _ _ _ => HO2; rename Blk W5 B _ _ => HH2; rename Blk W5 fb3 _ _ => HF; rename Hid (Below _ _ W5) => HBel2; have hlt2 : B < W5.heap.size := HH2.lt; have hltf : fb3 < W5.heap.size := HF.lt)
  obtain ⟨q0, q1, q2, q3, q4⟩ := HH2.cells5y
  obtain ⟨y0, y1, y2⟩ := HF.cells3
  rw [rounds_succ]
  go_wp2_with fail
  clear q0 q1 q2 q3 q4 y0 y1 y2 HF hltf hlt2
  rename Blk W5 B _ _ => HH
  rename W5.ownsRow _ _ _ _ _ _ => HO
  rename Hid (Below _ _ W5) => HBel
  have hlt : B < W5.heap.size := HH.lt
  obtain ⟨q0, q1, q2, q3, q4⟩ := HH.cells5y
  rw [rounds_succ]
  go_wp2_with fail
  have HF := Blk.new W5 54 #[.int .i64 2, .int .i64 1, .int .i64 64]
  have HH2 := HH.alloc (.cells #[.int .i64 2, .int .i64 1, .int .i64 64] 54)
  have HO2 := HO.alloc (.cells #[.int .i64 2, .int .i64 1, .int .i64 64] 54)
  have HBel2 := hid (bel_alloc HBel.out (.cells #[.int .i64 2, .int .i64 1, .int .i64 64] 54))
  obtain ⟨fb4, hfb⟩ : ∃ fb, fb = W5.heap.size := ⟨_, rfl⟩
  obtain ⟨Wf4, hWf4⟩ : ∃ Wf4, Wf4 = W5.alloc (.cells #[.int .i64 2, .int .i64 1, .int .i64 64] 54) := ⟨_, rfl⟩
  rw [← hWf4, ← hfb] at HF
  rw [← hWf4] at HH2 HO2 HBel2
  rw [← hWf4, ← hfb]
  have hlt2 : B < Wf4.heap.size := HH2.lt
  have hltf : fb4 < Wf4.heap.size := HF.lt
  clear q0 q1 q2 q3 q4 HH HO HBel hlt hfb hWf4
  refine wp_loop_rounds 3 ?_
  obtain ⟨q0, q1, q2, q3, q4⟩ := HH2.cells5y
  obtain ⟨y0, y1, y2⟩ := HF.cells3
  rw [rounds_succ]
  go_wp2_with (at_builtin; refine app_byte rfl _ _ 98 rfl B 5 Tryz.underlying98 Tryz.info_u8y _ 6 [181, (UInt8.ofNat k), (UInt8.ofNat (n / 256)), (UInt8.ofNat n), (UInt8.ofNat (z / 256)), (UInt8.ofNat z)] rfl HO2 (UInt8.ofNat (m / 256)) _ (by rw [UInt8.toNat_ofNat']; omega) 1 rfl (by omega) (by omega) ?_; intro v6 W6 hown hbb hgg; have HH3 := y_box HH2 HO2 (by decide) hgg; have HF3 := y_box HF HO2 (by decide) hgg; have HBel3 := hid (y_bel HBel2.out HO2 (by have := hBe2.out; omega) hgg); clear q0 q1 q2 q3 q4 y0 y1 y2 hlt2 hltf hbb hgg HO2 HH2 HF HBel2; rename W6.ownsRow _ _ _ _ _ _ => HO2; rename Blk W6 B _ _ => HH2; rename Blk W6 fb4 _ _ => HF; rename Hid (Below _ _ W6) => HBel2; have hlt2 : B < W6.heap.size := HH2.lt; have hltf : fb4 < W6.heap.size := HF.lt)
  obtain ⟨q0, q1, q2, q3, q4⟩ := HH2.cells5y
  obtain ⟨y0, y1, y2⟩ := HF.cells3
  rw [rounds_succ]
  go_wp2_with (at_builtin; refine app_byte rfl _ _ 98 rfl B 5 Tryz.underlying98 Tryz.info_u8y _ 7 [181, (UInt8.ofNat k), (UInt8.ofNat (n / 256)), (UInt8.ofNat n), (UInt8.ofNat (z / 256)), (UInt8.ofNat z), (UInt8.ofNat (m / 256))] rfl HO2 (UInt8.ofNat m) _ (by rw [UInt8.toNat_ofNat']; omega) 1 rfl (by omega) (by omega) ?_; intro v7 W7 hown hbb hgg; have HH3 := y_box HH2 HO2 (by decide) hgg; have HF3 := y_box HF HO2 (by decide) hgg; have HBel3 := hid (y_bel HBel2.out HO2 (by have := hBe2.out; omega) hgg); clear q0 q1 q2 q3 q4 y0 y1 y2 hlt2 hltf hbb hgg HO2 HH2 HF HBel2; rename W7.ownsRow _ _ _ _ _ _ => HO2; rename Blk W7 B _ _ => HH2; rename Blk W7 fb4 _ _ => HF; rename Hid (Below _ _ W7) => HBel2; have hlt2 : B < W7.heap.size := HH2.lt; have hltf : fb4 < W7.heap.size := HF.lt)
  obtain ⟨q0, q1, q2, q3, q4⟩ := HH2.cells5y
  obtain ⟨y0, y1, y2⟩ := HF.cells3
  rw [rounds_succ]
  go_wp2_with fail
  clear q0 q1 q2 q3 q4 y0 y1 y2 HF hltf hlt2
  rename Blk W7 B _ _ => HH
  rename W7.ownsRow _ _ _ _ _ _ => HO
  rename Hid (Below _ _ W7) => HBel
  have hlt : B < W7.heap.size := HH.lt
  rw [rounds_succ]
  go_wp2_with fail
  go_ret
  exact ⟨_, rfl, by have := hBe2.out; subst this; exact HO, by have := hBe2.out; subst this; exact HBel.out⟩

theorem c_allows (c lo hi n : Int) (w : World) : Calls Tryz.prog 36 #[.agg #[.int .i64 c, .int .i64 lo, .int .i64 hi], .int .i64 n] w fun e w' => e = .returned (.bool (inB n lo hi)) ∧ Below w.heap.size w w' := by
  by_cases h1 : lo ≤ n
  · by_cases h2 : n ≤ hi
    all_goals
      go_enter Tryz.func36, Tryz.ntmps36
      go_wp2
      go_ret
      exact ⟨ret_bool (by simp [inB]; omega), by exact obB⟩
  · go_enter Tryz.func36, Tryz.ntmps36
    go_wp2
    go_ret
    exact ⟨ret_bool (by simp [inB]; omega), by exact obB⟩

theorem c_l5Number (n : Int) (w : World) : Calls Tryz.prog 32 #[.int .i64 n] w (Same (.bool (inB n 0 39)) w) := by
  go_enter Tryz.func32, Tryz.ntmps32
  go_wp2_with ((go_at_call 33; refine (c_l1In _ _ _ _).mono ?_; rintro e w' ⟨rfl, rfl⟩))
  go_ret
  exact ⟨rfl, rfl⟩

theorem Lay.cells {w : World} (h : Lay w) : w.cell? ⟨0, 0, none⟩ = some (.int .i64 1) ∧ w.cell? ⟨0, 1, none⟩ = some (.int .i64 181) ∧ w.cell? ⟨0, 2, none⟩ = some (.int .i64 181) ∧ w.cell? ⟨0, 3, none⟩ = some (.int .i64 1) ∧ w.cell? ⟨0, 4, none⟩ = some (.int .i64 0) ∧ w.cell? ⟨0, 5, none⟩ = some (.int .i64 1) ∧ w.cell? ⟨0, 6, none⟩ = some (.int .i64 2) ∧ w.cell? ⟨0, 7, none⟩ = some (.int .i64 0) ∧ w.cell? ⟨0, 8, none⟩ = some (.int .i64 39) ∧ w.cell? ⟨0, 9, none⟩ = some (.int .i64 2) ∧ w.cell? ⟨0, 10, none⟩ = some (.int .i64 1) ∧ w.cell? ⟨0, 11, none⟩ = some (.int .i64 64) ∧ w.cell? ⟨0, 12, none⟩ = some (.int .i64 2) ∧ w.cell? ⟨0, 13, none⟩ = some (.int .i64 1) ∧ w.cell? ⟨0, 14, none⟩ = some (.int .i64 64) ∧ 0 < w.heap.size := by
  obtain ⟨t, h⟩ := h
  have c := fun i => cell_of_row w 0 i _ t (0, 0) h
  exact ⟨c 0, c 1, c 2, c 3, c 4, c 5, c 6, c 7, c 8, c 9, c 10, c 11, c 12, c 13, c 14, Blk.lt (t := t) h⟩

set_option maxRecDepth 100000 in
theorem c_l5Kind (b : Bl) (w : World) : Calls Tryz.prog 101 #[.agg #[.int .i64 b.n, .bool b.raw, .int .i64 b.z, .string b.body]] w fun e w' => e = .returned (.string (str [b.kind])) ∧ Below w.heap.size w w' := by
  obtain ⟨n, raw, z, body⟩ := b
  cases raw with
  | true =>
    have h0 := run_one (P := Tryz.prog) (w := w.alloc (.cells #[.int .i64 n, .bool true, .int .i64 z, .string body] 25)) Tryz.underlying98 Tryz.underlying5 Tryz.underlying9 (X := 0) (c := 0) rfl
    rw [World.size_alloc] at h0
    show Calls _ _ _ _ fun e w' => e = .returned (.string (str [0])) ∧ _
    obtain ⟨K0, hK0⟩ : ∃ K0, K0 = str [0] := ⟨_, rfl⟩
    rw [← hK0] at h0 ⊢
    clear hK0
    go_enter Tryz.func101, Tryz.ntmps101
    go_wp2
    go_ret
    exact ⟨rfl, by exact obB⟩
  | false =>
    have h0 := run_one (P := Tryz.prog) (w := w.alloc (.cells #[.int .i64 n, .bool false, .int .i64 z, .string body] 25)) Tryz.underlying98 Tryz.underlying5 Tryz.underlying9 (X := 1) (c := 1) rfl
    rw [World.size_alloc] at h0
    show Calls _ _ _ _ fun e w' => e = .returned (.string (str [1])) ∧ _
    obtain ⟨K0, hK0⟩ : ∃ K0, K0 = str [1] := ⟨_, rfl⟩
    rw [← hK0] at h0 ⊢
    clear hK0
    go_enter Tryz.func101, Tryz.ntmps101
    go_wp2
    go_ret
    exact ⟨rfl, by exact obB⟩

/-- a string of one byte that stands in memory -/
theorem run_oney {P : Program} {w : World} {g : Nat} {e src dst : TypeId} (hs : P.underlying src = some (.slice e)) (he : P.underlying e = some (.int .u8)) (hd : P.underlying dst = some .string) {c : UInt8} (hc : w.cell? ⟨g, 0, none⟩ = some (.int .u8 (c.toNat : Int))) :
    (convert src dst (.slice (some ⟨g, 0, none⟩) 1 1)).run P w = .ok (.string (str [c])) w := by
  refine run_convert_bytes_back (l := [c]) _ src dst e ⟨g, 0, none⟩ 1 hs he hd ?_
  intro j hj
  have : j = 0 := by simpa using hj
  subst this
  have e0 : ((⟨g, 0, none⟩ : Addr).add 0) = ⟨g, 0, none⟩ := by simp [Addr.add]
  rw [e0, hc]
  rfl

theorem Bl.inner_str (b : Bl) : str [b.kind] ++ str (two b.n.toNat) ++ str (two b.z.toNat) ++ str (two b.body.size) ++ b.body = str b.inner := by
  rw [← str_self b.body]
  simp only [str_append, str_size, len_toList, Bl.inner]
  simp [str_list, str_size, len_toList]

theorem Bl.text_str (b : Bl) : str [181] ++ str b.inner ++ str (two (M.ck b.inner)) = str b.text := by
  simp only [str_append, Bl.text]
  simp

set_option maxHeartbeats 4000000 in
set_option maxRecDepth 100000 in
theorem c_l5Text (b : Bl) (w : World) (hb : b.ok) : Calls Tryz.prog 69 #[.agg #[.int .i64 b.n, .bool b.raw, .int .i64 b.z, .string b.body]] w fun e w' => e = .returned (.string (str b.text)) ∧ Below w.heap.size w w' := by
  have hl := b.len hb
  obtain ⟨⟨h1, h2⟩, ⟨h3, h4⟩, _⟩ := id hb
  have HK := hid (fun (v : World) => c_l5Kind b v)
  have HN := hid (fun (v : World) => c_l4Two b.n.toNat v (by omega))
  have HZ := hid (fun (v : World) => c_l4Two b.z.toNat v (by omega))
  have HM := hid (fun (v : World) => c_l4Two b.body.size v (by omega))
  rw [show ((b.n.toNat : Nat) : Int) = b.n from by omega] at HN
  rw [show ((b.z.toNat : Nat) : Int) = b.z from by omega] at HZ
  obtain ⟨I, hI⟩ : ∃ I, I = str b.inner := ⟨_, rfl⟩
  have hIs : I.size = 7 + b.body.size := by rw [hI, str_size, b.inner_len]
  have HS := hid (fun (v : World) => c_sSumOf I v (by unfold maxLen; omega))
  have HC := hid (fun (v : World) => c_l4Two (M.ck I.data.toList) v (by have := M.ck_le I.data.toList; omega))
  have e1 := b.inner_str
  have e2 := b.text_str
  rw [show M.ck b.inner = M.ck I.data.toList from by rw [hI, str_list], ← hI] at e2
  rw [← hI] at e1
  obtain ⟨K, hK⟩ : ∃ K, K = str [b.kind] := ⟨_, rfl⟩
  obtain ⟨N2, hN2⟩ : ∃ N2, N2 = str (two b.n.toNat) := ⟨_, rfl⟩
  obtain ⟨Z2, hZ2⟩ : ∃ Z2, Z2 = str (two b.z.toNat) := ⟨_, rfl⟩
  obtain ⟨M2, hM2⟩ : ∃ M2, M2 = str (two b.body.size) := ⟨_, rfl⟩
  obtain ⟨C2, hC2⟩ : ∃ C2, C2 = str (two (M.ck I.data.toList)) := ⟨_, rfl⟩
  obtain ⟨P, hP⟩ : ∃ P, P = str [181] := ⟨_, rfl⟩
  have zK : K.size = 1 := by rw [hK, str_size]; rfl
  have zN : N2.size = 2 := by rw [hN2, str_size]; rfl
  have zZ : Z2.size = 2 := by rw [hZ2, str_size]; rfl
  have zM : M2.size = 2 := by rw [hM2, str_size]; rfl
  have zC : C2.size = 2 := by rw [hC2, str_size]; rfl
  have zP : P.size = 1 := by rw [hP, str_size]; rfl
  have HP2 := hid (fun (v : World) (g : Nat) (hc : v.cell? ⟨g, 0, none⟩ = some (.int .u8 181)) => (run_oney (P := Tryz.prog) Tryz.underlying98 Tryz.underlying5 Tryz.underlying9 (c := 181) hc))
  rw [← hK] at HK e1
  rw [← hN2] at HN e1
  rw [← hZ2] at HZ e1
  rw [← hM2] at HM e1
  rw [← hC2] at HC e2
  rw [← hP] at HP2 e2
  obtain ⟨S1, hS1⟩ : ∃ S1, S1 = K ++ N2 := ⟨_, rfl⟩
  obtain ⟨S2, hS2⟩ : ∃ S2, S2 = S1 ++ Z2 := ⟨_, rfl⟩
  obtain ⟨S3, hS3⟩ : ∃ S3, S3 = S2 ++ M2 := ⟨_, rfl⟩
  obtain ⟨T1, hT1⟩ : ∃ T1, T1 = P ++ I := ⟨_, rfl⟩
  obtain ⟨R, hR⟩ : ∃ R, R = str b.text := ⟨_, rfl⟩
  rw [← hS1, ← hS2, ← hS3] at e1
  rw [← hT1, ← hR] at e2
  have z1 : S1.size = K.size + N2.size := by rw [hS1, ByteArray.size_append]
  have z2 : S2.size = S1.size + Z2.size := by rw [hS2, ByteArray.size_append]
  have z3 : S3.size = S2.size + M2.size := by rw [hS3, ByteArray.size_append]
  have zT : T1.size = P.size + I.size := by rw [hT1, ByteArray.size_append]
  have a1 : ∀ W, (Op.stringOp .add K N2).run Tryz.prog W = .ok (.string S1) W := fun W => by rw [run_string_add_sum W _ _ (by omega), hS1]
  have a2 : ∀ W, (Op.stringOp .add S1 Z2).run Tryz.prog W = .ok (.string S2) W := fun W => by rw [run_string_add_sum W _ _ (by omega), hS2]
  have a3 : ∀ W, (Op.stringOp .add S2 M2).run Tryz.prog W = .ok (.string S3) W := fun W => by rw [run_string_add_sum W _ _ (by omega), hS3]
  have a4 : ∀ W, (Op.stringOp .add S3 b.body).run Tryz.prog W = .ok (.string I) W := fun W => by rw [run_string_add_sum W _ _ (by omega), e1]
  have a5 : ∀ W, (Op.stringOp .add P I).run Tryz.prog W = .ok (.string T1) W := fun W => by rw [run_string_add_sum W _ _ (by omega), hT1]
  have a6 : ∀ W, (Op.stringOp .add T1 C2).run Tryz.prog W = .ok (.string R) W := fun W => by rw [run_string_add_sum W _ _ (by omega), e2]
  rw [← hR]
  have hB := Blk.new w 25 #[.int .i64 b.n, .bool b.raw, .int .i64 b.z, .string b.body]
  have hl64 : (b.body.size : Int) ≤ 64 := by omega
  clear hI hIs e1 e2 hK hN2 hZ2 hM2 hC2 hP zK zN zZ zM zC zP hS1 hS2 hS3 hT1 hR z1 z2 z3 zT h1 h2 h3 h4 hb
  go_enter Tryz.func69, Tryz.ntmps69
  go_wp2_with fail
  have hS : (w.alloc (.cells #[.int .i64 b.n, .bool b.raw, .int .i64 b.z, .string b.body] 25)).cell? ⟨w.heap.size, 0, none⟩ = some (.int .i64 b.n) ∧ (w.alloc (.cells #[.int .i64 b.n, .bool b.raw, .int .i64 b.z, .string b.body] 25)).cell? ⟨w.heap.size, 1, none⟩ = some (.bool b.raw) ∧ (w.alloc (.cells #[.int .i64 b.n, .bool b.raw, .int .i64 b.z, .string b.body] 25)).cell? ⟨w.heap.size, 2, none⟩ = some (.int .i64 b.z) ∧ (w.alloc (.cells #[.int .i64 b.n, .bool b.raw, .int .i64 b.z, .string b.body] 25)).cell? ⟨w.heap.size, 3, none⟩ = some (.string b.body) ∧ Below w.heap.size w (w.alloc (.cells #[.int .i64 b.n, .bool b.raw, .int .i64 b.z, .string b.body] 25)) := ⟨hB.cell 0, hB.cell 1, hB.cell 2, hB.cell 3, bel_alloc (Below.refl _ w) _⟩
  refine qbegin (S := (fun v => v.cell? ⟨w.heap.size, 0, none⟩ = some (.int .i64 b.n) ∧ v.cell? ⟨w.heap.size, 1, none⟩ = some (.bool b.raw) ∧ v.cell? ⟨w.heap.size, 2, none⟩ = some (.int .i64 b.z) ∧ v.cell? ⟨w.heap.size, 3, none⟩ = some (.string b.body) ∧ Below w.heap.size w v)) (by kernel_rfl) (by kernel_rfl) (s4_drew hS) ?_
  refine qk ?_
  refine qc (fun wq hSq => HK.out wq) (fun wq wr hbr hSq => s4_bel hbr hSq) ?_
  refine qk ?_
  refine qk ?_
  refine qc (fun wq hSq => HN.out wq) (fun wq wr hbr hSq => s4_bel hbr hSq) ?_
  refine qk ?_
  refine qk ?_
  refine qk ?_
  refine qc (fun wq hSq => HZ.out wq) (fun wq wr hbr hSq => s4_bel hbr hSq) ?_
  refine qk ?_
  refine qk ?_
  refine qk ?_
  refine qk ?_
  refine qc (fun wq hSq => HM.out wq) (fun wq wr hbr hSq => s4_bel hbr hSq) ?_
  refine qk ?_
  refine qk ?_
  refine qk ?_
  refine qk ?_
  refine qk ?_
  refine wpQuiet_nil ?_
  intro wq hSq
  (try dsimp only at hSq)
  have HBq := hid hSq.2.2.2.2
  have HS2 := hid hSq.1
  clear hSq hS hB
  go_wp2_with fail
  have hp2 : ∀ (v : World) (g : Nat), v.cell? ⟨g, 0, none⟩ = some (.int .u8 181) → (convert 98 9 (.slice (some ⟨g, 0, none⟩) 1 1)).run Tryz.prog v = .ok (.string P) v := fun v g hc => HP2.out v g hc
  have hS2 : wq.cell? ⟨w.heap.size, 0, none⟩ = some (.int .i64 b.n) ∧ True := ⟨HS2.out, trivial⟩
  refine wp_region_noPanic ?_
  refine wp_region_held_drew (S := (fun v => v.cell? ⟨w.heap.size, 0, none⟩ = some (.int .i64 b.n) ∧ True)) (by kernel_rfl) (t1_drew hS2) (fun hHeld => ?_)
  refine tk 2 ?_
  refine tk 4 ?_
  refine wpAnyH_ready (rs := [0, 5]) (by kernel_rfl) (by simp) ?_
  refine AllReadyH.cons (o := ?or1_0) ?ir1_0 (fun K hK => ?sr1_0) (AllReadyH.cons (o := ?or1_5) ?ir1_5 (fun K hK => ?sr1_5) AllReadyH.nil)
  case ir1_0 => (simp only [List.getElem?_toArray, List.getElem?_cons_zero]; rfl)
  case ir1_5 => (simp only [List.getElem?_toArray, List.getElem?_cons_succ, List.getElem?_cons_zero]; rfl)
  case' sr1_0 =>
    ((go_simp; (try have cNa := (Blk.new wQ 5 #[.int .u8 181]).cell 0); have cNb : (wq.alloc (.cells #[.int .u8 181] 5)).drew.cell? ⟨wq.heap.size, 0, none⟩ = some (.int .u8 181) := (Blk.new wq 5 #[.int .u8 181]).cell 0))
    refine hK.out _ _ ?kr1_0 (fun hHeld => ?_)
    case kr1_0 => (try dsimp only); (first | with_reducible assumption | exact t1_bel (by assumption) (by assumption) | assumption | exact t1_alloc (by assumption) _)
    clear hK K
    try simp only [Act.put, List.setIfInBounds_toArray, List.set_cons_zero, List.set_cons_succ]
    refine wpAnyH_ready (rs := [1, 5]) (by kernel_rfl) (by simp) ?_
    refine AllReadyH.cons (o := ?or1b1_1) ?ir1b1_1 (fun K hK => ?sr1b1_1) (AllReadyH.cons (o := ?or1b1_5) ?ir1b1_5 (fun K hK => ?sr1b1_5) AllReadyH.nil)
    case ir1b1_1 => (simp only [List.getElem?_toArray, List.getElem?_cons_succ, List.getElem?_cons_zero]; rfl)
    case ir1b1_5 => (simp only [List.getElem?_toArray, List.getElem?_cons_succ, List.getElem?_cons_zero]; rfl)
    case' sr1b1_1 =>
      (go_simp; (go_simp))
      refine hK.out _ _ ?kr1b1_1 (fun hHeld => ?_)
      case kr1b1_1 => (try dsimp only); (first | with_reducible assumption | exact t1_bel (by assumption) (by assumption) | assumption | exact t1_alloc (by assumption) _)
      clear hK K
      try simp only [Act.put, List.setIfInBounds_toArray, List.set_cons_zero, List.set_cons_succ]
      refine tk 3 ?_
      refine wpAnyH_ready (rs := [5]) (by kernel_rfl) (by simp) ?_
      refine AllReadyH.cons (o := ?or1b1b2_5) ?ir1b1b2_5 (fun K hK => ?sr1b1b2_5) AllReadyH.nil
      case ir1b1b2_5 => (simp only [List.getElem?_toArray, List.getElem?_cons_succ, List.getElem?_cons_zero]; rfl)
      (go_simp; (go_at_call 103; refine (HS.out _).mono ?_; rintro e wS ⟨rfl, rfl⟩))
      refine hK.out _ _ ?kr1b1b2_5 (fun hHeld => ?_)
      case kr1b1b2_5 => (try dsimp only); (first | with_reducible assumption | exact t1_bel (by assumption) (by assumption) | assumption | exact t1_alloc (by assumption) _)
      clear hK K
      try simp only [Act.put, List.setIfInBounds_toArray, List.set_cons_zero, List.set_cons_succ]
      refine wpAnyH_ready (rs := [6]) (by kernel_rfl) (by simp) ?_
      refine AllReadyH.cons (o := ?or1b1b2_6) ?ir1b1b2_6 (fun K hK => ?sr1b1b2_6) AllReadyH.nil
      case ir1b1b2_6 => (simp only [List.getElem?_toArray, List.getElem?_cons_succ, List.getElem?_cons_zero]; rfl)
      (go_simp; (go_at_call 102; refine (HC.out _).mono ?_; rintro e wQ ⟨rfl, hbQ⟩; (try have cNc : wQ.cell? ⟨wq.heap.size, 0, none⟩ = some (.int .u8 181) := cell_to cNb hbQ)))
      refine hK.out _ _ ?kr1b1b2_6 (fun hHeld => ?_)
      case kr1b1b2_6 => (try dsimp only); (first | with_reducible assumption | exact t1_bel (by assumption) (by assumption) | assumption | exact t1_alloc (by assumption) _)
      clear hK K
      try simp only [Act.put, List.setIfInBounds_toArray, List.set_cons_zero, List.set_cons_succ]
      refine tk 7 ?_
      refine tk 8 ?_
      refine wpAnyH_done (by kernel_rfl) ?_ _
      refine NoPanic.normal ?_
    case' sr1b1_5 =>
      (go_simp; (go_at_call 103; refine (HS.out _).mono ?_; rintro e wS ⟨rfl, rfl⟩))
      refine hK.out _ _ ?kr1b1_5 (fun hHeld => ?_)
      case kr1b1_5 => (try dsimp only); (first | with_reducible assumption | exact t1_bel (by assumption) (by assumption) | assumption | exact t1_alloc (by assumption) _)
      clear hK K
      try simp only [Act.put, List.setIfInBounds_toArray, List.set_cons_zero, List.set_cons_succ]
      refine wpAnyH_ready (rs := [1, 6]) (by kernel_rfl) (by simp) ?_
      refine AllReadyH.cons (o := ?or1b1b3_1) ?ir1b1b3_1 (fun K hK => ?sr1b1b3_1) (AllReadyH.cons (o := ?or1b1b3_6) ?ir1b1b3_6 (fun K hK => ?sr1b1b3_6) AllReadyH.nil)
      case ir1b1b3_1 => (simp only [List.getElem?_toArray, List.getElem?_cons_succ, List.getElem?_cons_zero]; rfl)
      case ir1b1b3_6 => (simp only [List.getElem?_toArray, List.getElem?_cons_succ, List.getElem?_cons_zero]; rfl)
      case' sr1b1b3_1 =>
        (go_simp; (go_simp))
        refine hK.out _ _ ?kr1b1b3_1 (fun hHeld => ?_)
        case kr1b1b3_1 => (try dsimp only); (first | with_reducible assumption | exact t1_bel (by assumption) (by assumption) | assumption | exact t1_alloc (by assumption) _)
        clear hK K
        try simp only [Act.put, List.setIfInBounds_toArray, List.set_cons_zero, List.set_cons_succ]
        refine tk 3 ?_
        refine wpAnyH_ready (rs := [6]) (by kernel_rfl) (by simp) ?_
        refine AllReadyH.cons (o := ?or1b1b3b4_6) ?ir1b1b3b4_6 (fun K hK => ?sr1b1b3b4_6) AllReadyH.nil
        case ir1b1b3b4_6 => (simp only [List.getElem?_toArray, List.getElem?_cons_succ, List.getElem?_cons_zero]; rfl)
        (go_simp; (go_at_call 102; refine (HC.out _).mono ?_; rintro e wQ ⟨rfl, hbQ⟩; (try have cNc : wQ.cell? ⟨wq.heap.size, 0, none⟩ = some (.int .u8 181) := cell_to cNb hbQ)))
        refine hK.out _ _ ?kr1b1b3b4_6 (fun hHeld => ?_)
        case kr1b1b3b4_6 => (try dsimp only); (first | with_reducible assumption | exact t1_bel (by assumption) (by assumption) | assumption | exact t1_alloc (by assumption) _)
        clear hK K
        try simp only [Act.put, List.setIfInBounds_toArray, List.set_cons_zero, List.set_cons_succ]
        refine tk 7 ?_
        refine tk 8 ?_
        refine wpAnyH_done (by kernel_rfl) ?_ _
        refine NoPanic.normal ?_
      case' sr1b1b3_6 =>
        (go_simp; (go_at_call 102; refine (HC.out _).mono ?_; rintro e wQ ⟨rfl, hbQ⟩; (try have cNc : wQ.cell? ⟨wq.heap.size, 0, none⟩ = some (.int .u8 181) := cell_to cNb hbQ)))
        refine hK.out _ _ ?kr1b1b3_6 (fun hHeld => ?_)
        case kr1b1b3_6 => (try dsimp only); (first | with_reducible assumption | exact t1_bel (by assumption) (by assumption) | assumption | exact t1_alloc (by assumption) _)
        clear hK K
        try simp only [Act.put, List.setIfInBounds_toArray, List.set_cons_zero, List.set_cons_succ]
        refine wpAnyH_ready (rs := [1]) (by kernel_rfl) (by simp) ?_
        refine AllReadyH.cons (o := ?or1b1b3b5_1) ?ir1b1b3b5_1 (fun K hK => ?sr1b1b3b5_1) AllReadyH.nil
        case ir1b1b3b5_1 => (simp only [List.getElem?_toArray, List.getElem?_cons_succ, List.getElem?_cons_zero]; rfl)
        (go_simp; (go_simp))
        refine hK.out _ _ ?kr1b1b3b5_1 (fun hHeld => ?_)
        case kr1b1b3b5_1 => (try dsimp only); (first | with_reducible assumption | exact t1_bel (by assumption) (by assumption) | assumption | exact t1_alloc (by assumption) _)
        clear hK K
        try simp only [Act.put, List.setIfInBounds_toArray, List.set_cons_zero, List.set_cons_succ]
        refine tk 3 ?_
        refine tk 7 ?_
        refine tk 8 ?_
        refine wpAnyH_done (by kernel_rfl) ?_ _
        refine NoPanic.normal ?_
  case' sr1_5 =>
    (go_simp; (go_at_call 103; refine (HS.out _).mono ?_; rintro e wS ⟨rfl, rfl⟩))
    refine hK.out _ _ ?kr1_5 (fun hHeld => ?_)
    case kr1_5 => (try dsimp only); (first | with_reducible assumption | exact t1_bel (by assumption) (by assumption) | assumption | exact t1_alloc (by assumption) _)
    clear hK K
    try simp only [Act.put, List.setIfInBounds_toArray, List.set_cons_zero, List.set_cons_succ]
    refine wpAnyH_ready (rs := [0, 6]) (by kernel_rfl) (by simp) ?_
    refine AllReadyH.cons (o := ?or1b6_0) ?ir1b6_0 (fun K hK => ?sr1b6_0) (AllReadyH.cons (o := ?or1b6_6) ?ir1b6_6 (fun K hK => ?sr1b6_6) AllReadyH.nil)
    case ir1b6_0 => (simp only [List.getElem?_toArray, List.getElem?_cons_zero]; rfl)
    case ir1b6_6 => (simp only [List.getElem?_toArray, List.getElem?_cons_succ, List.getElem?_cons_zero]; rfl)
    case' sr1b6_0 =>
      ((go_simp; (try have cNa := (Blk.new wQ 5 #[.int .u8 181]).cell 0); have cNb : (wq.alloc (.cells #[.int .u8 181] 5)).drew.cell? ⟨wq.heap.size, 0, none⟩ = some (.int .u8 181) := (Blk.new wq 5 #[.int .u8 181]).cell 0))
      refine hK.out _ _ ?kr1b6_0 (fun hHeld => ?_)
      case kr1b6_0 => (try dsimp only); (first | with_reducible assumption | exact t1_bel (by assumption) (by assumption) | assumption | exact t1_alloc (by assumption) _)
      clear hK K
      try simp only [Act.put, List.setIfInBounds_toArray, List.set_cons_zero, List.set_cons_succ]
      refine wpAnyH_ready (rs := [1, 6]) (by kernel_rfl) (by simp) ?_
      refine AllReadyH.cons (o := ?or1b6b7_1) ?ir1b6b7_1 (fun K hK => ?sr1b6b7_1) (AllReadyH.cons (o := ?or1b6b7_6) ?ir1b6b7_6 (fun K hK => ?sr1b6b7_6) AllReadyH.nil)
      case ir1b6b7_1 => (simp only [List.getElem?_toArray, List.getElem?_cons_succ, List.getElem?_cons_zero]; rfl)
      case ir1b6b7_6 => (simp only [List.getElem?_toArray, List.getElem?_cons_succ, List.getElem?_cons_zero]; rfl)
      case' sr1b6b7_1 =>
        (go_simp; (go_simp))
        refine hK.out _ _ ?kr1b6b7_1 (fun hHeld => ?_)
        case kr1b6b7_1 => (try dsimp only); (first | with_reducible assumption | exact t1_bel (by assumption) (by assumption) | assumption | exact t1_alloc (by assumption) _)
        clear hK K
        try simp only [Act.put, List.setIfInBounds_toArray, List.set_cons_zero, List.set_cons_succ]
        refine tk 3 ?_
        refine wpAnyH_ready (rs := [6]) (by kernel_rfl) (by simp) ?_
        refine AllReadyH.cons (o := ?or1b6b7b8_6) ?ir1b6b7b8_6 (fun K hK => ?sr1b6b7b8_6) AllReadyH.nil
        case ir1b6b7b8_6 => (simp only [List.getElem?_toArray, List.getElem?_cons_succ, List.getElem?_cons_zero]; rfl)
        (go_simp; (go_at_call 102; refine (HC.out _).mono ?_; rintro e wQ ⟨rfl, hbQ⟩; (try have cNc : wQ.cell? ⟨wq.heap.size, 0, none⟩ = some (.int .u8 181) := cell_to cNb hbQ)))
        refine hK.out _ _ ?kr1b6b7b8_6 (fun hHeld => ?_)
        case kr1b6b7b8_6 => (try dsimp only); (first | with_reducible assumption | exact t1_bel (by assumption) (by assumption) | assumption | exact t1_alloc (by assumption) _)
        clear hK K
        try simp only [Act.put, List.setIfInBounds_toArray, List.set_cons_zero, List.set_cons_succ]
        refine tk 7 ?_
        refine tk 8 ?_
        refine wpAnyH_done (by kernel_rfl) ?_ _
        refine NoPanic.normal ?_
      case' sr1b6b7_6 =>
        (go_simp; (go_at_call 102; refine (HC.out _).mono ?_; rintro e wQ ⟨rfl, hbQ⟩; (try have cNc : wQ.cell? ⟨wq.heap.size, 0, none⟩ = some (.int .u8 181) := cell_to cNb hbQ)))
        refine hK.out _ _ ?kr1b6b7_6 (fun hHeld => ?_)
        case kr1b6b7_6 => (try dsimp only); (first | with_reducible assumption | exact t1_bel (by assumption) (by assumption) | assumption | exact t1_alloc (by assumption) _)
        clear hK K
        try simp only [Act.put, List.setIfInBounds_toArray, List.set_cons_zero, List.set_cons_succ]
        refine wpAnyH_ready (rs := [1]) (by kernel_rfl) (by simp) ?_
        refine AllReadyH.cons (o := ?or1b6b7b9_1) ?ir1b6b7b9_1 (fun K hK => ?sr1b6b7b9_1) AllReadyH.nil
        case ir1b6b7b9_1 => (simp only [List.getElem?_toArray, List.getElem?_cons_succ, List.getElem?_cons_zero]; rfl)
        (go_simp; (go_simp))
        refine hK.out _ _ ?kr1b6b7b9_1 (fun hHeld => ?_)
        case kr1b6b7b9_1 => (try dsimp only); (first | with_reducible assumption | exact t1_bel (by assumption) (by assumption) | assumption | exact t1_alloc (by assumption) _)
        clear hK K
        try simp only [Act.put, List.setIfInBounds_toArray, List.set_cons_zero, List.set_cons_succ]
        refine tk 3 ?_
        refine tk 7 ?_
        refine tk 8 ?_
        refine wpAnyH_done (by kernel_rfl) ?_ _
        refine NoPanic.normal ?_
    case' sr1b6_6 =>
      (go_simp; (go_at_call 102; refine (HC.out _).mono ?_; rintro e wQ ⟨rfl, hbQ⟩; (try have cNc : wQ.cell? ⟨wq.heap.size, 0, none⟩ = some (.int .u8 181) := cell_to cNb hbQ)))
      refine hK.out _ _ ?kr1b6_6 (fun hHeld => ?_)
      case kr1b6_6 => (try dsimp only); (first | with_reducible assumption | exact t1_bel (by assumption) (by assumption) | assumption | exact t1_alloc (by assumption) _)
      clear hK K
      try simp only [Act.put, List.setIfInBounds_toArray, List.set_cons_zero, List.set_cons_succ]
      refine wpAnyH_ready (rs := [0]) (by kernel_rfl) (by simp) ?_
      refine AllReadyH.cons (o := ?or1b6b10_0) ?ir1b6b10_0 (fun K hK => ?sr1b6b10_0) AllReadyH.nil
      case ir1b6b10_0 => (simp only [List.getElem?_toArray, List.getElem?_cons_zero]; rfl)
      ((go_simp; (try have cNa := (Blk.new wQ 5 #[.int .u8 181]).cell 0); have cNb : (wq.alloc (.cells #[.int .u8 181] 5)).drew.cell? ⟨wq.heap.size, 0, none⟩ = some (.int .u8 181) := (Blk.new wq 5 #[.int .u8 181]).cell 0))
      refine hK.out _ _ ?kr1b6b10_0 (fun hHeld => ?_)
      case kr1b6b10_0 => (try dsimp only); (first | with_reducible assumption | exact t1_bel (by assumption) (by assumption) | assumption | exact t1_alloc (by assumption) _)
      clear hK K
      try simp only [Act.put, List.setIfInBounds_toArray, List.set_cons_zero, List.set_cons_succ]
      refine wpAnyH_ready (rs := [1]) (by kernel_rfl) (by simp) ?_
      refine AllReadyH.cons (o := ?or1b6b10_1) ?ir1b6b10_1 (fun K hK => ?sr1b6b10_1) AllReadyH.nil
      case ir1b6b10_1 => (simp only [List.getElem?_toArray, List.getElem?_cons_succ, List.getElem?_cons_zero]; rfl)
      (go_simp; (go_simp))
      refine hK.out _ _ ?kr1b6b10_1 (fun hHeld => ?_)
      case kr1b6b10_1 => (try dsimp only); (first | with_reducible assumption | exact t1_bel (by assumption) (by assumption) | assumption | exact t1_alloc (by assumption) _)
      clear hK K
      try simp only [Act.put, List.setIfInBounds_toArray, List.set_cons_zero, List.set_cons_succ]
      refine tk 3 ?_
      refine tk 7 ?_
      refine tk 8 ?_
      refine wpAnyH_done (by kernel_rfl) ?_ _
      refine NoPanic.normal ?_
  all_goals
    go_wp2
    go_ret
    exact ⟨rfl, by have := HBq.out; exact obB⟩
end

section
open Go.ChangeShapes Go.WideShapes Go.ChangeAt Go.RowKit Go.Joins
set_option linter.unusedVariables false
set_option linter.unusedSimpArgs false

theorem Bl.hdr (b : Bl) (hk : b.kind.toNat ≤ 1) : (181 :: UInt8.ofNat b.kind.toNat :: (two b.n.toNat ++ two b.z.toNat ++ two b.body.size)) ++ b.body.data.toList = 181 :: b.inner := by
  have : UInt8.ofNat b.kind.toNat = b.kind := by simp
  simp [Bl.inner, this]

set_option maxHeartbeats 4000000 in
set_option maxRecDepth 100000 in
theorem c_blockBytes (b : Bl) (w : World) (hb : b.ok) (hL : Lay w) : Calls Tryz.prog 70 #[.agg #[.int .i64 b.n, .bool b.raw, .int .i64 b.z, .string b.body]] w fun e w' => e = .returned (.string (str b.text)) ∧ Below w.heap.size w w' := by
  have hl := b.len hb
  obtain ⟨⟨h1, h2⟩, ⟨h3, h4⟩, _⟩ := id hb
  have hk := b.kind_lt.1
  have HH := hid (fun (v : World) => c_headerOf b v)
  have HA := hid (fun (v : World) (hv : Lay v) => c_appendTo b.kind.toNat b.n.toNat b.z.toNat b.body.size v hv hk (by omega) (by omega) (by omega))
  rw [show ((b.n.toNat : Nat) : Int) = b.n from by omega, show ((b.z.toNat : Nat) : Int) = b.z from by omega] at HA
  have HLay := hid hL
  have HHd := hid (b.hdr hk)
  have hB := Blk.new w 25 #[.int .i64 b.n, .bool b.raw, .int .i64 b.z, .string b.body]
  obtain ⟨HD, hHD⟩ : ∃ HD, HD = 181 :: UInt8.ofNat b.kind.toNat :: (two b.n.toNat ++ two b.z.toNat ++ two b.body.size) := ⟨_, rfl⟩
  rw [← hHD] at HA HHd
  have HT := hid (b.text_str)
  have HI := hid (show (181 :: b.inner).drop 1 = b.inner from rfl)
  have HP := hid (show str (181 :: b.inner) = str [181] ++ str b.inner by rw [str_append]; rfl)
  have hil : b.inner.length = 7 + b.body.size := b.inner_len
  have HSm := hid (fun (v : World) => c_SumOf (str b.inner) v (by unfold maxLen; rw [str_size]; omega))
  rw [str_list] at HSm
  have HTw := hid (fun (v : World) => c_twoBytes (M.ck b.inner) v (by have := M.ck_le b.inner; omega))
  obtain ⟨C2, hC2⟩ : ∃ C2, C2 = str (two (M.ck b.inner)) := ⟨_, rfl⟩
  rw [← hC2] at HTw HT
  have zC : C2.size = 2 := by rw [hC2, str_size]; rfl
  obtain ⟨S1, hS1⟩ : ∃ S1, S1 = str (181 :: b.inner) := ⟨_, rfl⟩
  have zS : S1.size = 8 + b.body.size := by rw [hS1, str_size, List.length_cons, hil]; omega
  obtain ⟨R, hR⟩ : ∃ R, R = str b.text := ⟨_, rfl⟩
  have a6 : ∀ W, (Op.stringOp .add S1 C2).run Tryz.prog W = .ok (.string R) W := fun W => by rw [run_string_add_sum W _ _ (by omega), hR, ← HT.out, hS1, HP.out]
  rw [← hR]
  have HS1 := hid hS1
  have hl64 : b.body.size ≤ 64 := hl.2
  clear hHD hC2 hS1 hR zC zS h1 h2 h3 h4 hb hk hL hl
  go_enter Tryz.func70, Tryz.ntmps70
  go_wp2_with fail
  have hS : (w.alloc (.cells #[.int .i64 b.n, .bool b.raw, .int .i64 b.z, .string b.body] 25)).cell? ⟨w.heap.size, 0, none⟩ = some (.int .i64 b.n) ∧ (w.alloc (.cells #[.int .i64 b.n, .bool b.raw, .int .i64 b.z, .string b.body] 25)).cell? ⟨w.heap.size, 1, none⟩ = some (.bool b.raw) ∧ (w.alloc (.cells #[.int .i64 b.n, .bool b.raw, .int .i64 b.z, .string b.body] 25)).cell? ⟨w.heap.size, 2, none⟩ = some (.int .i64 b.z) ∧ (w.alloc (.cells #[.int .i64 b.n, .bool b.raw, .int .i64 b.z, .string b.body] 25)).cell? ⟨w.heap.size, 3, none⟩ = some (.string b.body) ∧ True := ⟨hB.cell 0, hB.cell 1, hB.cell 2, hB.cell 3, trivial⟩
  have hbel := bel_drew (bel_alloc (Below.refl _ w) (.cells #[.int .i64 b.n, .bool b.raw, .int .i64 b.z, .string b.body] 25))
  have hBx := hB.drew
  have hTT := And.intro (hBx.cell 0) (And.intro (hBx.cell 1) (And.intro (hBx.cell 2) (And.intro (hBx.cell 3) trivial)))
  clear hB
  refine wp_region_noPanic ?_
  refine wp_region_held_drew (S := (fun v => v.cell? ⟨w.heap.size, 0, none⟩ = some (.int .i64 b.n) ∧ v.cell? ⟨w.heap.size, 1, none⟩ = some (.bool b.raw) ∧ v.cell? ⟨w.heap.size, 2, none⟩ = some (.int .i64 b.z) ∧ v.cell? ⟨w.heap.size, 3, none⟩ = some (.string b.body) ∧ True)) (by kernel_rfl) (t4_drew hS) (fun hHeld => ?_)
  refine tk 0 ?_
  refine tk 3 ?_
  refine tk 4 ?_
  refine wpAnyH_ready (rs := [1]) (by kernel_rfl) (by simp) ?_
  refine AllReadyH.cons (o := ?or1_1) ?ir1_1 (fun K hK => ?sr1_1) AllReadyH.nil
  case ir1_1 => (simp only [List.getElem?_toArray, List.getElem?_cons_succ, List.getElem?_cons_zero]; rfl)
  (go_simp; (go_at_call 67; refine (HH.out _).mono ?_; rintro e wA ⟨rfl, hbA⟩; replace hbel := bel_trans hbel hbA; replace hBx := hBx.on hbA; replace hTT := And.intro (hBx.cell 0) (And.intro (hBx.cell 1) (And.intro (hBx.cell 2) (And.intro (hBx.cell 3) trivial))); clear hbA))
  refine hK.out _ _ ?kr1_1 (fun hHeld => ?_)
  case kr1_1 => (try dsimp only); (first | with_reducible assumption | with_reducible exact hTT | exact t4_bel (by assumption) (by assumption) | assumption | exact t4_alloc (by assumption) _ | exact hTT)
  clear hK K
  try simp only [Act.put, List.setIfInBounds_toArray, List.set_cons_zero, List.set_cons_succ]
  refine wpAnyH_ready (rs := [2]) (by kernel_rfl) (by simp) ?_
  refine AllReadyH.cons (o := ?or1_2) ?ir1_2 (fun K hK => ?sr1_2) AllReadyH.nil
  case ir1_2 => (simp only [List.getElem?_toArray, List.getElem?_cons_succ, List.getElem?_cons_zero]; rfl)
  (go_simp; (go_at_call 104; refine (HA.out _ (HLay.out.on hbel)).mono ?_; rintro e wB ⟨vA, rfl, hownB, hbB⟩; have HOB := hid (y_mono hownB hbel.size); replace hbel := bel_trans hbel hbB; replace hBx := hBx.on hbB; replace hTT := And.intro (hBx.cell 0) (And.intro (hBx.cell 1) (And.intro (hBx.cell 2) (And.intro (hBx.cell 3) trivial))); clear hownB hbB))
  refine hK.out _ _ ?kr1_2 (fun hHeld => ?_)
  case kr1_2 => (try dsimp only); (first | with_reducible assumption | with_reducible exact hTT | exact t4_bel (by assumption) (by assumption) | assumption | exact t4_alloc (by assumption) _ | exact hTT)
  clear hK K
  try simp only [Act.put, List.setIfInBounds_toArray, List.set_cons_zero, List.set_cons_succ]
  refine wpAnyH_ready (rs := [5]) (by kernel_rfl) (by simp) ?_
  refine AllReadyH.cons (o := ?or1_5) ?ir1_5 (fun K hK => ?sr1_5) AllReadyH.nil
  case ir1_5 => (simp only [List.getElem?_toArray, List.getElem?_cons_succ, List.getElem?_cons_zero]; rfl)
  ((refine y_step_str (by rfl) (.tmp 7) (.tmp 9) 98 9 (by rfl) w.heap.size 5 Tryz.underlying98 Tryz.underlying9 Tryz.info_u8y _ 8 HD (by rfl) HOB.out b.body (by rfl) (by omega) hbel.size ?_; intro v9 w9 hown9 hb9 hg9; have hbel9 := y_bel hbel HOB.out (Nat.le_refl _) hg9; replace hBx := y_box hBx HOB.out (by decide) hg9; replace hTT := And.intro (hBx.cell 0) (And.intro (hBx.cell 1) (And.intro (hBx.cell 2) (And.intro (hBx.cell 3) trivial))); clear hbel hg9 hb9 hBx))
  refine hK.out _ _ ?kr1_5 (fun hHeld => ?_)
  case kr1_5 => (try dsimp only); (first | with_reducible assumption | with_reducible exact hTT | exact t4_bel (by assumption) (by assumption) | assumption | exact t4_alloc (by assumption) _ | exact hTT)
  clear hK K
  try simp only [Act.put, List.setIfInBounds_toArray, List.set_cons_zero, List.set_cons_succ]
  refine tk 6 ?_
  refine wpAnyH_done (by kernel_rfl) ?_ _
  refine NoPanic.normal ?_
  clear HH HA HOB hHeld hTT
  rw [HHd.out] at hown9
  have HO9 := hid (ownO_of hown9)
  obtain ⟨vi, hsl, hoi, _⟩ := HO9.out.drop (P := Tryz.prog) Tryz.underlying98 Tryz.info_u8y 1 (by simp)
  have hsl1 : ∀ (W : World), (Instr.slice 98 v9 (some (.int .i64 1)) none none).run Tryz.prog W = .ok vi W := hsl
  rw [HI.out] at hoi
  have hci := hoi.run_str (P := Tryz.prog) Tryz.underlying98 Tryz.underlying5 Tryz.underlying9
  have HC9 := hid (fun (v : World) (hv : Below w9.heap.size w9 v) => (HO9.out.on hv).run_str (P := Tryz.prog) Tryz.underlying98 Tryz.underlying5 Tryz.underlying9)
  rw [← HS1.out] at HC9
  obtain ⟨I, hI⟩ : ∃ I, I = str b.inner := ⟨_, rfl⟩
  rw [← hI] at HSm hci
  clear hsl hoi hown9 hI
  go_wp2_with fail
  have hS3 := Below.refl w9.heap.size w9
  refine qbegin (S := (fun v => Below w9.heap.size w9 v)) (by kernel_rfl) (by kernel_rfl) (bel_drew hS3) ?_
  refine qk ?_
  refine qk ?_ (hy := fun wq hSq => by have hcq := HC9.out wq hSq; (try dsimp only at hSq); go_simp; try with_reducible rfl)
  refine qk ?_
  refine qc (fun wq hSq => same_bel (HSm.out wq)) (fun wq wr hbr hSq => (fun hbr hSq => bel_trans hSq hbr) hbr hSq) ?_
  refine qc (fun wq hSq => HTw.out wq) (fun wq wr hbr hSq => (fun hbr hSq => bel_trans hSq hbr) hbr hSq) ?_
  refine qk ?_
  refine qk ?_
  refine wpQuiet_nil ?_
  intro wq hSq
  (try dsimp only at hSq)
  go_wp2
  go_ret
  exact ⟨rfl, bel_trans hbel9 hSq⟩
end

section
open Go.ChangeShapes Go.WideShapes Go.ChangeAt Go.RowKit Go.Joins
set_option linter.unusedVariables false
set_option linter.unusedSimpArgs false

theorem okB_no1 {b : Bl} (h : inB b.n 0 39 = false) : decide b.ok = false := decide_eq_false fun hb => by have := inB_iff.2 hb.1; rw [h] at this; cases this

theorem okB_no2 {b : Bl} (h : inB b.z 1 64 = false) : decide b.ok = false := decide_eq_false fun hb => by have := inB_iff.2 hb.2.1; rw [h] at this; cases this

theorem okB_no3 {b : Bl} (h : inB b.body.size 1 64 = false) : decide b.ok = false := decide_eq_false fun hb => by
  have := b.len hb
  have h2 : inB (b.body.size : Int) 1 64 = true := inB_iff.2 (by omega)
  rw [h] at h2; cases h2

theorem okB_raw {b : Bl} (h1 : inB b.n 0 39 = true) (h2 : inB b.z 1 64 = true) (hr : b.raw = true) : decide b.ok = ((b.body.size : Int) == b.z) := by
  have h1 := inB_iff.1 h1
  have h2 := inB_iff.1 h2
  rw [Bool.eq_iff_iff]
  simp [Bl.ok, hr]
  omega

theorem okB_not {b : Bl} (h1 : inB b.n 0 39 = true) (h2 : inB b.z 1 64 = true) (h3 : inB b.body.size 1 64 = true) (hr : b.raw = false) : decide b.ok = decide ((b.body.size : Int) < b.z) := by
  have h1 := inB_iff.1 h1
  have h2 := inB_iff.1 h2
  have h3 := inB_iff.1 h3
  rw [Bool.eq_iff_iff]
  simp [Bl.ok, hr]
  omega

set_option maxHeartbeats 4000000 in
set_option maxRecDepth 100000 in
theorem c_blockValid (b : Bl) (w : World) (hL : Lay w) (hn : -9223372036854775808 ≤ b.n ∧ b.n ≤ 9223372036854775807) (hz : -9223372036854775808 ≤ b.z ∧ b.z ≤ 9223372036854775807) (hs : b.body.size ≤ maxLen) : Calls Tryz.prog 40 #[.agg #[.int .i64 b.n, .bool b.raw, .int .i64 b.z, .string b.body]] w fun e w' => e = .returned (.bool (decide b.ok)) ∧ Below w.heap.size w w' := by
  unfold maxLen at hs
  have HH := hid (fun (v : World) => c_headerOf b v)
  have HK := hid (Blk.new w 25 #[.int .i64 b.n, .bool b.raw, .int .i64 b.z, .string b.body])
  have HB := hid (bel_alloc (Below.refl _ w) (.cells #[.int .i64 b.n, .bool b.raw, .int .i64 b.z, .string b.body] 25))
  have HL := hid hL
  have ix0 : ∀ W : World, (Instr.index 106 (.agg #[.int .i64 181, .int .i64 (b.kind.toNat : Int), .int .i64 b.n, .int .i64 b.z, .int .i64 (b.body.size : Int)]) (.int .i64 0)).run Tryz.prog W = .ok (.int .i64 181) W := fun _ => by kernel_rfl
  have ix1 : ∀ W : World, (Instr.index 106 (.agg #[.int .i64 181, .int .i64 (b.kind.toNat : Int), .int .i64 b.n, .int .i64 b.z, .int .i64 (b.body.size : Int)]) (.int .i64 1)).run Tryz.prog W = .ok (.int .i64 (b.kind.toNat : Int)) W := fun _ => by kernel_rfl
  have ix2 : ∀ W : World, (Instr.index 106 (.agg #[.int .i64 181, .int .i64 (b.kind.toNat : Int), .int .i64 b.n, .int .i64 b.z, .int .i64 (b.body.size : Int)]) (.int .i64 2)).run Tryz.prog W = .ok (.int .i64 b.n) W := fun _ => by kernel_rfl
  have ix3 : ∀ W : World, (Instr.index 106 (.agg #[.int .i64 181, .int .i64 (b.kind.toNat : Int), .int .i64 b.n, .int .i64 b.z, .int .i64 (b.body.size : Int)]) (.int .i64 3)).run Tryz.prog W = .ok (.int .i64 b.z) W := fun _ => by kernel_rfl
  have ix4 : ∀ W : World, (Instr.index 106 (.agg #[.int .i64 181, .int .i64 (b.kind.toNat : Int), .int .i64 b.n, .int .i64 b.z, .int .i64 (b.body.size : Int)]) (.int .i64 4)).run Tryz.prog W = .ok (.int .i64 (b.body.size : Int)) W := fun _ => by kernel_rfl
  have HA0 := hid (fun (v : World) => c_allows 1 181 181 181 v)
  have HA1 := hid (fun (v : World) => c_allows 1 0 1 (b.kind.toNat : Int) v)
  have HA2 := hid (fun (v : World) => c_allows 2 0 39 b.n v)
  have HA3 := hid (fun (v : World) => c_allows 2 1 64 b.z v)
  have HA4 := hid (fun (v : World) => c_allows 2 1 64 (b.body.size : Int) v)
  have hk := b.kind_lt.1
  have e0 : inB 181 181 181 = true := rfl
  have e1 : inB (b.kind.toNat : Int) 0 1 = true := inB_iff.2 (by omega)
  simp only [e0] at HA0
  simp only [e1] at HA1
  cases h1 : inB b.n 0 39 with
  | false =>
    have HF := hid (okB_no1 h1)
    simp only [h1] at HA2
    go_enter Tryz.func40, Tryz.ntmps40
    go_wp2_with fail
    refine (HH.out _).mono ?_
    rintro e w0 ⟨rfl, hb0⟩
    have HB0 := hid (bel_trans HB.out hb0)
    have HK0 := hid (HK.out.on hb0)
    have HL0 := hid (HL.out.on HB0.out)
    clear hb0
    go_wp2_with fail
    refine wp_loop_rounds 6 ?_
    rw [rounds_succ]
    obtain ⟨l0, l1, l2, l3, l4, l5, l6, l7, l8, l9, l10, l11, l12, l13, l14, lg⟩ := HL0.out.cells
    go_wp2_with fail
    refine (HA0.out _).mono ?_
    rintro e w1 ⟨rfl, hb1⟩
    have HB1 := hid (bel_trans HB0.out hb1)
    have HK1 := hid (HK0.out.on hb1)
    have HL1 := hid (HL0.out.on hb1)
    clear l0 l1 l2 l3 l4 l5 l6 l7 l8 l9 l10 l11 l12 l13 l14 lg hb1 HL0 HB0 HK0
    go_wp2_with fail
    rw [rounds_succ]
    obtain ⟨l0, l1, l2, l3, l4, l5, l6, l7, l8, l9, l10, l11, l12, l13, l14, lg⟩ := HL1.out.cells
    go_wp2_with fail
    refine (HA1.out _).mono ?_
    rintro e w2 ⟨rfl, hb2⟩
    have HB2 := hid (bel_trans HB1.out hb2)
    have HK2 := hid (HK1.out.on hb2)
    have HL2 := hid (HL1.out.on hb2)
    clear l0 l1 l2 l3 l4 l5 l6 l7 l8 l9 l10 l11 l12 l13 l14 lg hb2 HL1 HB1 HK1
    go_wp2_with fail
    rw [rounds_succ]
    obtain ⟨l0, l1, l2, l3, l4, l5, l6, l7, l8, l9, l10, l11, l12, l13, l14, lg⟩ := HL2.out.cells
    go_wp2_with fail
    refine (HA2.out _).mono ?_
    rintro e w3 ⟨rfl, hb3⟩
    have HB3 := hid (bel_trans HB2.out hb3)
    go_wp2
    go_ret
    exact ⟨ret_bool (by rw [HF.out]), HB3.out⟩
  | true =>
   simp only [h1] at HA2
   cases h2 : inB b.z 1 64 with
   | false =>
    have HF := hid (okB_no2 h2)
    simp only [h2] at HA3
    go_enter Tryz.func40, Tryz.ntmps40
    go_wp2_with fail
    refine (HH.out _).mono ?_
    rintro e w0 ⟨rfl, hb0⟩
    have HB0 := hid (bel_trans HB.out hb0)
    have HK0 := hid (HK.out.on hb0)
    have HL0 := hid (HL.out.on HB0.out)
    clear hb0
    go_wp2_with fail
    refine wp_loop_rounds 6 ?_
    rw [rounds_succ]
    obtain ⟨l0, l1, l2, l3, l4, l5, l6, l7, l8, l9, l10, l11, l12, l13, l14, lg⟩ := HL0.out.cells
    go_wp2_with fail
    refine (HA0.out _).mono ?_
    rintro e w1 ⟨rfl, hb1⟩
    have HB1 := hid (bel_trans HB0.out hb1)
    have HK1 := hid (HK0.out.on hb1)
    have HL1 := hid (HL0.out.on hb1)
    clear l0 l1 l2 l3 l4 l5 l6 l7 l8 l9 l10 l11 l12 l13 l14 lg hb1 HL0 HB0 HK0
    go_wp2_with fail
    rw [rounds_succ]
    obtain ⟨l0, l1, l2, l3, l4, l5, l6, l7, l8, l9, l10, l11, l12, l13, l14, lg⟩ := HL1.out.cells
    go_wp2_with fail
    refine (HA1.out _).mono ?_
    rintro e w2 ⟨rfl, hb2⟩
    have HB2 := hid (bel_trans HB1.out hb2)
    have HK2 := hid (HK1.out.on hb2)
    have HL2 := hid (HL1.out.on hb2)
    clear l0 l1 l2 l3 l4 l5 l6 l7 l8 l9 l10 l11 l12 l13 l14 lg hb2 HL1 HB1 HK1
    go_wp2_with fail
    rw [rounds_succ]
    obtain ⟨l0, l1, l2, l3, l4, l5, l6, l7, l8, l9, l10, l11, l12, l13, l14, lg⟩ := HL2.out.cells
    go_wp2_with fail
    refine (HA2.out _).mono ?_
    rintro e w3 ⟨rfl, hb3⟩
    have HB3 := hid (bel_trans HB2.out hb3)
    have HK3 := hid (HK2.out.on hb3)
    have HL3 := hid (HL2.out.on hb3)
    clear l0 l1 l2 l3 l4 l5 l6 l7 l8 l9 l10 l11 l12 l13 l14 lg hb3 HL2 HB2 HK2
    go_wp2_with fail
    rw [rounds_succ]
    obtain ⟨l0, l1, l2, l3, l4, l5, l6, l7, l8, l9, l10, l11, l12, l13, l14, lg⟩ := HL3.out.cells
    go_wp2_with fail
    refine (HA3.out _).mono ?_
    rintro e w4 ⟨rfl, hb4⟩
    have HB4 := hid (bel_trans HB3.out hb4)
    go_wp2
    go_ret
    exact ⟨ret_bool (by rw [HF.out]), HB4.out⟩
   | true =>
    simp only [h2] at HA3
    cases h3 : inB (b.body.size : Int) 1 64 with
    | false =>
     have HF := hid (okB_no3 h3)
     simp only [h3] at HA4
     go_enter Tryz.func40, Tryz.ntmps40
     go_wp2_with fail
     refine (HH.out _).mono ?_
     rintro e w0 ⟨rfl, hb0⟩
     have HB0 := hid (bel_trans HB.out hb0)
     have HK0 := hid (HK.out.on hb0)
     have HL0 := hid (HL.out.on HB0.out)
     clear hb0
     go_wp2_with fail
     refine wp_loop_rounds 6 ?_
     rw [rounds_succ]
     obtain ⟨l0, l1, l2, l3, l4, l5, l6, l7, l8, l9, l10, l11, l12, l13, l14, lg⟩ := HL0.out.cells
     go_wp2_with fail
     refine (HA0.out _).mono ?_
     rintro e w1 ⟨rfl, hb1⟩
     have HB1 := hid (bel_trans HB0.out hb1)
     have HK1 := hid (HK0.out.on hb1)
     have HL1 := hid (HL0.out.on hb1)
     clear l0 l1 l2 l3 l4 l5 l6 l7 l8 l9 l10 l11 l12 l13 l14 lg hb1 HL0 HB0 HK0
     go_wp2_with fail
     rw [rounds_succ]
     obtain ⟨l0, l1, l2, l3, l4, l5, l6, l7, l8, l9, l10, l11, l12, l13, l14, lg⟩ := HL1.out.cells
     go_wp2_with fail
     refine (HA1.out _).mono ?_
     rintro e w2 ⟨rfl, hb2⟩
     have HB2 := hid (bel_trans HB1.out hb2)
     have HK2 := hid (HK1.out.on hb2)
     have HL2 := hid (HL1.out.on hb2)
     clear l0 l1 l2 l3 l4 l5 l6 l7 l8 l9 l10 l11 l12 l13 l14 lg hb2 HL1 HB1 HK1
     go_wp2_with fail
     rw [rounds_succ]
     obtain ⟨l0, l1, l2, l3, l4, l5, l6, l7, l8, l9, l10, l11, l12, l13, l14, lg⟩ := HL2.out.cells
     go_wp2_with fail
     refine (HA2.out _).mono ?_
     rintro e w3 ⟨rfl, hb3⟩
     have HB3 := hid (bel_trans HB2.out hb3)
     have HK3 := hid (HK2.out.on hb3)
     have HL3 := hid (HL2.out.on hb3)
     clear l0 l1 l2 l3 l4 l5 l6 l7 l8 l9 l10 l11 l12 l13 l14 lg hb3 HL2 HB2 HK2
     go_wp2_with fail
     rw [rounds_succ]
     obtain ⟨l0, l1, l2, l3, l4, l5, l6, l7, l8, l9, l10, l11, l12, l13, l14, lg⟩ := HL3.out.cells
     go_wp2_with fail
     refine (HA3.out _).mono ?_
     rintro e w4 ⟨rfl, hb4⟩
     have HB4 := hid (bel_trans HB3.out hb4)
     have HK4 := hid (HK3.out.on hb4)
     have HL4 := hid (HL3.out.on hb4)
     clear l0 l1 l2 l3 l4 l5 l6 l7 l8 l9 l10 l11 l12 l13 l14 lg hb4 HL3 HB3 HK3
     go_wp2_with fail
     rw [rounds_succ]
     obtain ⟨l0, l1, l2, l3, l4, l5, l6, l7, l8, l9, l10, l11, l12, l13, l14, lg⟩ := HL4.out.cells
     go_wp2_with fail
     refine (HA4.out _).mono ?_
     rintro e w5 ⟨rfl, hb5⟩
     have HB5 := hid (bel_trans HB4.out hb5)
     go_wp2
     go_ret
     exact ⟨ret_bool (by rw [HF.out]), HB5.out⟩
    | true =>
     simp only [h3] at HA4
     have H1 := hid h1
     have H2 := hid h2
     have H3 := hid h3
     clear h1 h2 h3
     go_enter Tryz.func40, Tryz.ntmps40
     go_wp2_with fail
     refine (HH.out _).mono ?_
     rintro e w0 ⟨rfl, hb0⟩
     have HB0 := hid (bel_trans HB.out hb0)
     have HK0 := hid (HK.out.on hb0)
     have HL0 := hid (HL.out.on HB0.out)
     clear hb0
     go_wp2_with fail
     refine wp_loop_rounds 6 ?_
     rw [rounds_succ]
     obtain ⟨l0, l1, l2, l3, l4, l5, l6, l7, l8, l9, l10, l11, l12, l13, l14, lg⟩ := HL0.out.cells
     go_wp2_with fail
     refine (HA0.out _).mono ?_
     rintro e w1 ⟨rfl, hb1⟩
     have HB1 := hid (bel_trans HB0.out hb1)
     have HK1 := hid (HK0.out.on hb1)
     have HL1 := hid (HL0.out.on hb1)
     clear l0 l1 l2 l3 l4 l5 l6 l7 l8 l9 l10 l11 l12 l13 l14 lg hb1 HL0 HB0 HK0
     go_wp2_with fail
     rw [rounds_succ]
     obtain ⟨l0, l1, l2, l3, l4, l5, l6, l7, l8, l9, l10, l11, l12, l13, l14, lg⟩ := HL1.out.cells
     go_wp2_with fail
     refine (HA1.out _).mono ?_
     rintro e w2 ⟨rfl, hb2⟩
     have HB2 := hid (bel_trans HB1.out hb2)
     have HK2 := hid (HK1.out.on hb2)
     have HL2 := hid (HL1.out.on hb2)
     clear l0 l1 l2 l3 l4 l5 l6 l7 l8 l9 l10 l11 l12 l13 l14 lg hb2 HL1 HB1 HK1
     go_wp2_with fail
     rw [rounds_succ]
     obtain ⟨l0, l1, l2, l3, l4, l5, l6, l7, l8, l9, l10, l11, l12, l13, l14, lg⟩ := HL2.out.cells
     go_wp2_with fail
     refine (HA2.out _).mono ?_
     rintro e w3 ⟨rfl, hb3⟩
     have HB3 := hid (bel_trans HB2.out hb3)
     have HK3 := hid (HK2.out.on hb3)
     have HL3 := hid (HL2.out.on hb3)
     clear l0 l1 l2 l3 l4 l5 l6 l7 l8 l9 l10 l11 l12 l13 l14 lg hb3 HL2 HB2 HK2
     go_wp2_with fail
     rw [rounds_succ]
     obtain ⟨l0, l1, l2, l3, l4, l5, l6, l7, l8, l9, l10, l11, l12, l13, l14, lg⟩ := HL3.out.cells
     go_wp2_with fail
     refine (HA3.out _).mono ?_
     rintro e w4 ⟨rfl, hb4⟩
     have HB4 := hid (bel_trans HB3.out hb4)
     have HK4 := hid (HK3.out.on hb4)
     have HL4 := hid (HL3.out.on hb4)
     clear l0 l1 l2 l3 l4 l5 l6 l7 l8 l9 l10 l11 l12 l13 l14 lg hb4 HL3 HB3 HK3
     go_wp2_with fail
     rw [rounds_succ]
     obtain ⟨l0, l1, l2, l3, l4, l5, l6, l7, l8, l9, l10, l11, l12, l13, l14, lg⟩ := HL4.out.cells
     go_wp2_with fail
     refine (HA4.out _).mono ?_
     rintro e w5 ⟨rfl, hb5⟩
     have HB5 := hid (bel_trans HB4.out hb5)
     have HK5 := hid (HK4.out.on hb5)
     have HL5 := hid (HL4.out.on hb5)
     clear l0 l1 l2 l3 l4 l5 l6 l7 l8 l9 l10 l11 l12 l13 l14 lg hb5 HL4 HB4 HK4
     go_wp2_with fail
     obtain ⟨p0, p1, p2, p3⟩ := HK5.out.cells4y
     rw [rounds_succ]
     go_wp2
     · rename_i hr
       go_ret
       exact ⟨ret_bool (okB_raw H1.out H2.out hr).symm, HB5.out⟩
     · rename_i hr
       go_ret
       exact ⟨ret_bool (okB_not H1.out H2.out H3.out hr).symm, HB5.out⟩
end

section
open Go.ChangeShapes Go.WideShapes Go.ChangeAt Go.RowKit Go.Joins
set_option linter.unusedVariables false
set_option linter.unusedSimpArgs false

theorem okB_not2 {b : Bl} (h1 : inB b.n 0 39 = true) (h2 : inB b.z 1 64 = true) (hr : b.raw = false) : decide b.ok = inB (b.body.size : Int) 1 (b.z - 1) := by
  have h1 := inB_iff.1 h1
  have h2 := inB_iff.1 h2
  rw [Bool.eq_iff_iff]
  simp [Bl.ok, hr, inB]
  omega

set_option maxRecDepth 100000 in
theorem c_l5Form (b : Bl) (w : World) (hn : -9223372036854775808 ≤ b.n ∧ b.n ≤ 9223372036854775807) (hz : -9223372036854775808 ≤ b.z ∧ b.z ≤ 9223372036854775807) (hs : b.body.size ≤ maxLen) : Calls Tryz.prog 38 #[.agg #[.int .i64 b.n, .bool b.raw, .int .i64 b.z, .string b.body]] w fun e w' => e = .returned (.bool (decide b.ok)) ∧ Below w.heap.size w w' := by
  unfold maxLen at hs
  have HN := hid (fun (v : World) => c_l5Number b.n v)
  have HZ := hid (fun (v : World) => c_l1In b.z 1 64 v)
  have HM := hid (fun (v : World) => c_l1In b.body.size 1 (b.z - 1) v)
  obtain ⟨p0, p1, p2, p3⟩ := (Blk.new w 25 #[.int .i64 b.n, .bool b.raw, .int .i64 b.z, .string b.body]).cells4y
  cases h1 : inB b.n 0 39 with
  | false =>
    have HF := hid (okB_no1 h1)
    simp only [h1] at HN
    clear h1
    go_enter Tryz.func38, Tryz.ntmps38
    go_wp2_with (first | (go_at_call 32; refine (HN.out _).mono ?_; rintro e w' ⟨rfl, rfl⟩) | (go_at_call 33; refine (HZ.out _).mono ?_; rintro e w' ⟨rfl, rfl⟩))
    go_ret
    exact ⟨ret_bool HF.out.symm, by exact obB⟩
  | true =>
    simp only [h1] at HN
    cases h2 : inB b.z 1 64 with
    | false =>
      have HF := hid (okB_no2 h2)
      simp only [h2] at HZ
      clear h1 h2
      go_enter Tryz.func38, Tryz.ntmps38
      go_wp2_with (first | (go_at_call 32; refine (HN.out _).mono ?_; rintro e w' ⟨rfl, rfl⟩) | (go_at_call 33; refine (HZ.out _).mono ?_; rintro e w' ⟨rfl, rfl⟩))
      go_ret
      exact ⟨ret_bool HF.out.symm, by exact obB⟩
    | true =>
      have h3 := inB_iff.1 h2
      simp only [h2] at HZ
      have H1 := hid h1
      have H2 := hid h2
      clear h1
      go_enter Tryz.func38, Tryz.ntmps38
      go_wp2_with (first | (go_at_call 32; refine (HN.out _).mono ?_; rintro e w' ⟨rfl, rfl⟩) | (go_at_call 33; refine (c_l1In _ _ _ _).mono ?_; rintro e w' ⟨rfl, rfl⟩))
      · rename_i hr
        go_ret
        exact ⟨ret_bool (okB_raw H1.out H2.out hr).symm, by exact obB⟩
      · rename_i hr
        go_ret
        exact ⟨ret_bool (okB_not2 H1.out H2.out hr).symm, by exact obB⟩

theorem Blk.put4y {w : World} {g : Nat} {t : TypeId} {a b c d : Value} (h : Blk w g t #[a, b, c, d]) (a' b' c' d' : Value) : Blk ((((w.setCell ⟨g, 0, none⟩ a').setCell ⟨g, 1, none⟩ b').setCell ⟨g, 2, none⟩ c').setCell ⟨g, 3, none⟩ d') g t #[a', b', c', d'] :=
  (((h.set_ 0 a').set_ 1 b').set_ 2 c').set_ 3 d'

end
end Go.Proofs.YtmlaaammfnboiaaGreatDoor
