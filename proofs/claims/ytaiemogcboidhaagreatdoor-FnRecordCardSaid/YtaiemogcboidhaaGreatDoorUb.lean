/- Plain mathematics: the checksum of bytes, by sums. It imports nothing. No condition. Plain mathematics: blocks, their bytes, how they are parsed, and how a container is read. No condition. Contracts of SumOf in both programs. No condition but that a string has a length. Rows that the call owns, beside boxes and beside each other. No condition. Contracts: the two bytes of a number, a block's header, its bytes, whether it is one; in both programs. The layout of the header is as the program's text lays it. Contracts: a block's bytes and whether it is one, FormatBlock in both programs, and the walk of its exact law. The layout of the header is as the program's text lays it. Contracts: a block's bytes and whether it is one, FormatBlock in both programs, and the walk of its exact law. The layout of the header is as the program's text lays it. Contracts: a block's bytes and whether it is one, FormatBlock in both programs, and the walk of its exact law. The layout of the header is as the program's text lays it. -/
import Derived.Test.YtaiemogcboidhaaGreatDoorBa
import Derived.Test.YtaiemogcboidhaaGreatDoorBb
import Derived.Deep.Quiet
import Derived.OrdersHeld
import Derived.Test.YtaiemogcboidhaaGreatDoorGo
import Derived.Deep.QuietTactic
import Derived.BigQuiet
import Derived.LoopN
import Derived.WalkLawsBesides
import Derived.Test.YtaiemogcboidhaaGreatDoorOo
namespace Go.Proofs.YtaiemogcboidhaaGreatDoor
section
namespace M
/-- the sum of bytes -/
def sm : List UInt8 → Nat
  | [] => 0
  | c :: t => c.toNat + sm t
/-- the sum of the sums of all beginnings -/
def sw : List UInt8 → Nat
  | [] => 0
  | c :: t => c.toNat * (t.length + 1) + sw t
theorem sm_app (x y : List UInt8) : sm (x ++ y) = sm x + sm y := by
  induction x with
  | nil => simp [sm]
  | cons c t ih => simp only [List.cons_append, sm, ih]; omega
theorem sw_app (x y : List UInt8) : sw (x ++ y) = sw x + sm x * y.length + sw y := by
  induction x with
  | nil => simp [sw, sm]
  | cons c t ih =>
    simp only [List.cons_append, sw, sm, ih, List.length_append, Nat.add_mul, Nat.mul_add, Nat.mul_one]
    omega
theorem sm_snoc (x : List UInt8) (c : UInt8) : sm (x ++ [c]) = sm x + c.toNat := by rw [sm_app]; simp [sm]
theorem sw_snoc (x : List UInt8) (c : UInt8) : sw (x ++ [c]) = sw x + sm x + c.toNat := by rw [sw_app]; simp [sw]
/-- the checksum -/
def ck (l : List UInt8) : Nat := 256 * (sw l % 255) + sm l % 255
theorem ck_le (l : List UInt8) : ck l ≤ 65535 := by unfold ck; omega
theorem ck_iff (x y : List UInt8) : ck x = ck y ↔ sw x % 255 = sw y % 255 ∧ sm x % 255 = sm y % 255 := by unfold ck; omega
theorem ck_low (l : List UInt8) : ck l % 256 = sm l % 255 := by unfold ck; omega
theorem ck_high (l : List UInt8) : ck l / 256 = sw l % 255 := by unfold ck; omega
theorem ck_app (x y : List UInt8) : ck (x ++ y) = 256 * ((ck x / 256 + ck x % 256 * y.length + ck y / 256) % 255) + (ck x % 256 + ck y % 256) % 255 := by
  rw [ck_low, ck_low, ck_high, ck_high, ck, sm_app, sw_app]
  have h1 : (sw x + sm x * y.length + sw y) % 255 = (sw x % 255 + sm x % 255 * y.length + sw y % 255) % 255 := by
    have h2 : (sm x * y.length) % 255 = (sm x % 255 * y.length) % 255 := by rw [Nat.mod_mul_mod]
    generalize sm x * y.length = a at h2 ⊢
    generalize sm x % 255 * y.length = b at h2 ⊢
    omega
  rw [h1]
  omega
/-- neighbors that are exchanged -/
theorem ck_swap (p q : List UInt8) (c d : UInt8) : ck (p ++ [d, c] ++ q) = ck (p ++ [c, d] ++ q) ↔ (d.toNat : Int) % 255 = (c.toNat : Int) % 255 := by
  rw [ck_iff]
  have e1 : sm (p ++ [d, c] ++ q) = sm (p ++ [c, d] ++ q) := by simp only [sm_app, sm]; omega
  have e2 : sw (p ++ [d, c] ++ q) + c.toNat = sw (p ++ [c, d] ++ q) + d.toNat := by
    simp only [sw_app, sm_app, sw, sm, List.length_cons, List.length_nil]
    have : (d.toNat + (c.toNat + 0)) * q.length = (c.toNat + (d.toNat + 0)) * q.length := by congr 1; omega
    generalize sm p * 2 = X
    rw [Nat.add_mul (sm p), Nat.add_mul (sm p)]
    omega
  omega
/-- a byte that is changed -/
theorem ck_set (p q : List UInt8) (c d : UInt8) : ck (p ++ [d] ++ q) = ck (p ++ [c] ++ q) ↔ (d.toNat : Int) % 255 = (c.toNat : Int) % 255 := by
  rw [ck_iff]
  simp only [sw_app, sm_app, sw, sm, List.length_cons, List.length_nil]
  constructor
  · rintro ⟨_, h⟩; omega
  · intro h
    have h0 : (d.toNat + 0) % 255 = (c.toNat + 0) % 255 := by omega
    have h1 : ((d.toNat + 0) * q.length) % 255 = ((c.toNat + 0) * q.length) % 255 := by rw [← Nat.mod_mul_mod, h0, Nat.mod_mul_mod]
    refine ⟨?_, by omega⟩
    rw [Nat.add_mul (sm p), Nat.add_mul (sm p)]
    generalize (d.toNat + 0) * q.length = a at h1 ⊢
    generalize (c.toNat + 0) * q.length = b at h1 ⊢
    omega
theorem ck_zero (l : List UInt8) : ck (l ++ [0]) = ck l ↔ ck l % 256 = 0 := by
  rw [ck_iff, ck_low, sw_snoc, sm_snoc]
  simp
  omega
end M
end

section
set_option linter.unusedVariables false

/-- two bytes of a number, the one of higher value first -/
def two (n : Nat) : List UInt8 := [UInt8.ofNat (n / 256), UInt8.ofNat n]
theorem two_len (n : Nat) : (two n).length = 2 := rfl
/-- a block -/
structure Bl where
  n : Int
  raw : Bool
  z : Int
  body : ByteArray
def Bl.ok (b : Bl) : Prop := (0 ≤ b.n ∧ b.n ≤ 39) ∧ (1 ≤ b.z ∧ b.z ≤ 64) ∧ (b.raw = true → (b.body.size : Int) = b.z) ∧ (b.raw = false → 1 ≤ b.body.size ∧ (b.body.size : Int) < b.z)
instance (b : Bl) : Decidable b.ok := by unfold Bl.ok; exact inferInstance
def Bl.kind (b : Bl) : UInt8 := if b.raw then 0 else 1
def Bl.inner (b : Bl) : List UInt8 := b.kind :: (two b.n.toNat ++ (two b.z.toNat ++ (two b.body.size ++ b.body.data.toList)))
def Bl.text (b : Bl) : List UInt8 := 181 :: (b.inner ++ two (M.ck b.inner))
theorem Bl.inner_len (b : Bl) : b.inner.length = 7 + b.body.size := by
  simp [Bl.inner, two]; omega
theorem Bl.text_len (b : Bl) : b.text.length = 10 + b.body.size := by
  simp [Bl.text, b.inner_len, two]; omega
theorem Bl.len (b : Bl) (h : b.ok) : 1 ≤ b.body.size ∧ b.body.size ≤ 64 := by
  obtain ⟨h1, h2, h3, h4⟩ := h
  cases hr : b.raw with
  | true => have := h3 hr; omega
  | false => have := h4 hr; omega
/-- the byte at an index -/
def bat (T : List UInt8) (i : Nat) : Nat := (T.getD i 0).toNat
/-- the number of two bytes -/
def pat2 (T : List UInt8) (i : Nat) : Nat := 256 * bat T i + bat T (i + 1)
theorem bat_lt (T : List UInt8) (i : Nat) : bat T i < 256 := UInt8.toNat_lt _
/-- what stands at the beginning of bytes as a block -/
def brd (T : List UInt8) : Bl := ⟨pat2 T 2, bat T 1 == 0, pat2 T 4, ⟨((T.drop 8).take (pat2 T 6)).toArray⟩⟩
/-- the fields of a header are allowed -/
def hdOk (T : List UInt8) : Prop := 8 ≤ T.length ∧ bat T 0 = 181 ∧ bat T 1 ≤ 1 ∧ pat2 T 2 ≤ 39 ∧ (1 ≤ pat2 T 4 ∧ pat2 T 4 ≤ 64) ∧ (1 ≤ pat2 T 6 ∧ pat2 T 6 ≤ 64)
instance (T : List UInt8) : Decidable (hdOk T) := by unfold hdOk; exact inferInstance
def bOk (T : List UInt8) : Prop := hdOk T ∧ 10 + pat2 T 6 ≤ T.length ∧ (brd T).ok ∧ (brd T).text = T.take (10 + pat2 T 6)
instance (T : List UInt8) : Decidable (bOk T) := by unfold bOk; exact inferInstance
/-- the block with which bytes begin -/
def parse (T : List UInt8) : Option Bl := if bOk T then some (brd T) else none
theorem brd_size (T : List UInt8) (h : 10 + pat2 T 6 ≤ T.length) : (brd T).body.size = pat2 T 6 := by
  simp [brd, ByteArray.size]; omega
theorem parse_some {T : List UInt8} {b : Bl} (h : parse T = some b) : b = brd T ∧ bOk T := by
  unfold parse at h
  split at h
  · exact ⟨(Option.some.inj h).symm, by assumption⟩
  · cases h
theorem parse_none {T : List UInt8} (h : parse T = none) : ¬ bOk T := by
  unfold parse at h
  split at h
  · cases h
  · assumption
theorem Bl.kind_lt (b : Bl) : b.kind.toNat ≤ 1 ∧ (b.kind.toNat = 0 ↔ b.raw = true) := by
  unfold Bl.kind; cases b.raw <;> simp
theorem pr_two (n : Nat) (h : n < 65536) (x y : List UInt8) : pat2 (x ++ two n ++ y) x.length = n := by
  have e0 : (x ++ two n ++ y).getD x.length 0 = UInt8.ofNat (n / 256) := by simp [two, List.getD_eq_getElem?_getD]
  have e1 : (x ++ two n ++ y).getD (x.length + 1) 0 = UInt8.ofNat n := by simp [two, List.getD_eq_getElem?_getD]
  unfold pat2 bat
  rw [e0, e1]
  simp only [UInt8.toNat_ofNat']
  omega
/-- bytes that begin with the text of a block are parsed as it -/
theorem parse_text (b : Bl) (h : b.ok) (R : List UInt8) : parse (b.text ++ R) = some b := by
  have hl := b.len h
  obtain ⟨h1, h2, h3, h4⟩ := id h
  have b0 : bat (b.text ++ R) 0 = 181 := rfl
  have b1 : bat (b.text ++ R) 1 = b.kind.toNat := rfl
  have p2 : pat2 (b.text ++ R) 2 = b.n.toNat := by
    have := pr_two b.n.toNat (by omega) [181, b.kind] (two b.z.toNat ++ (two b.body.size ++ b.body.data.toList) ++ two (M.ck b.inner) ++ R)
    simpa [Bl.text, Bl.inner] using this
  have p4 : pat2 (b.text ++ R) 4 = b.z.toNat := by
    have := pr_two b.z.toNat (by omega) (181 :: b.kind :: two b.n.toNat) (two b.body.size ++ b.body.data.toList ++ two (M.ck b.inner) ++ R)
    simpa [Bl.text, Bl.inner, two] using this
  have p6 : pat2 (b.text ++ R) 6 = b.body.size := by
    have := pr_two b.body.size (by omega) (181 :: b.kind :: (two b.n.toNat ++ two b.z.toNat)) (b.body.data.toList ++ two (M.ck b.inner) ++ R)
    simpa [Bl.text, Bl.inner, two] using this
  have hk := b.kind_lt
  have hlen : (b.text ++ R).length = 10 + b.body.size + R.length := by rw [List.length_append, b.text_len]
  have e : brd (b.text ++ R) = b := by
    have e1 : ((b.text ++ R).drop 8).take (pat2 (b.text ++ R) 6) = b.body.data.toList := by
      rw [p6]
      simp only [Bl.text, Bl.inner, two, List.cons_append, List.nil_append, List.drop_succ_cons, List.drop_zero, List.append_assoc]
      rw [List.take_append_of_le_length (by simp)]
      rw [List.take_of_length_le (by simp)]
    unfold brd
    rw [e1, p2, p4, b1]
    cases b with
    | mk n raw z body =>
      have q1 : ((n.toNat : Nat) : Int) = n := by have := h1.1; simp only at this; omega
      have q2 : ((z.toNat : Nat) : Int) = z := by have := h2.1; simp only at this; omega
      simp only [q1, q2]
      congr 1
      cases raw <;> rfl
  unfold parse
  rw [if_pos, e]
  have hd : hdOk (b.text ++ R) := by
    unfold hdOk
    rw [b0, b1, p2, p4, p6]
    omega
  refine ⟨hd, by omega, by rw [e]; exact h, ?_⟩
  rw [e, p6, ← b.text_len, List.take_left']
  rfl
theorem parse_len {T : List UInt8} {b : Bl} (h : parse T = some b) : b.ok ∧ 10 + b.body.size ≤ T.length ∧ T.take (10 + b.body.size) = b.text := by
  obtain ⟨rfl, h1, h2, h3, h4⟩ := parse_some h
  rw [brd_size T h2]
  exact ⟨h3, h2, h4.symm⟩
/-- the bytes of blocks, one directly after the other -/
def txt (bs : List Bl) : List UInt8 := bs.flatMap Bl.text
/-- the sizes of blocks together -/
def zs : List Bl → Nat
  | [] => 0
  | b :: t => b.z.toNat + zs t
theorem txt_snoc (bs : List Bl) (b : Bl) : txt (bs ++ [b]) = txt bs ++ b.text := by simp [txt]
theorem txt_app (bs cs : List Bl) : txt (bs ++ cs) = txt bs ++ txt cs := by simp [txt]
theorem zs_app (bs cs : List Bl) : zs (bs ++ cs) = zs bs + zs cs := by
  induction bs with
  | nil => simp [zs]
  | cons b t ih => simp [zs, ih]; omega
theorem zs_snoc (bs : List Bl) (b : Bl) : zs (bs ++ [b]) = zs bs + b.z.toNat := by rw [zs_app]; simp [zs]
/-- bytes begin with these blocks, which are numbered from 0 on -/
def Rdg (S : List UInt8) (bs : List Bl) : Prop := (∀ (i : Nat) (b : Bl), bs[i]? = some b → b.ok ∧ b.n = (i : Int)) ∧ S.take (txt bs).length = txt bs ∧ (txt bs).length ≤ S.length
theorem Rdg.nil (S : List UInt8) : Rdg S [] := ⟨fun i b h => by simp at h, by simp [txt], by simp [txt]⟩
/-- the next block -/
theorem Rdg.next {S : List UInt8} {bs : List Bl} (h : Rdg S bs) {b : Bl} (hp : parse (S.drop (txt bs).length) = some b) (hn : b.n = (bs.length : Int)) : Rdg S (bs ++ [b]) := by
  obtain ⟨h1, h2, h3⟩ := h
  obtain ⟨p1, p2, p3⟩ := parse_len hp
  rw [List.length_drop] at p2
  refine ⟨fun i c hc => ?_, ?_, ?_⟩
  · rw [List.getElem?_append] at hc
    split at hc
    · exact h1 i c hc
    · have hi : i = bs.length := by
        rw [List.getElem?_eq_some_iff] at hc
        obtain ⟨hh, _⟩ := hc
        simp at hh
        omega
      subst hi
      simp at hc
      subst hc
      exact ⟨p1, hn⟩
  · rw [txt_snoc, List.length_append, List.take_add, h2, b.text_len, p3]
  · rw [txt_snoc, List.length_append, b.text_len]; omega
theorem Rdg.take {S : List UInt8} {bs : List Bl} (h : Rdg S bs) (k : Nat) : Rdg S (bs.take k) := by
  obtain ⟨h1, h2, h3⟩ := h
  have e : txt bs = txt (bs.take k) ++ txt (bs.drop k) := by rw [← txt_app, List.take_append_drop]
  have hl : (txt (bs.take k)).length ≤ (txt bs).length := by rw [e, List.length_append]; omega
  refine ⟨fun i b hb => ?_, ?_, by omega⟩
  · rw [List.getElem?_take] at hb
    split at hb
    · exact h1 i b hb
    · cases hb
  · have : S.take (txt (bs.take k)).length = (S.take (txt bs).length).take (txt (bs.take k)).length := by
      rw [List.take_take, Nat.min_eq_left hl]
    rw [this, h2, e, List.take_left']
    rfl
/-- the block behind the first k ones -/
theorem Rdg.at_ {S : List UInt8} {bs : List Bl} (h : Rdg S bs) {k : Nat} {b : Bl} (hk : bs[k]? = some b) : parse (S.drop (txt (bs.take k)).length) = some b := by
  have hok := (h.1 k b hk).1
  obtain ⟨h1, h2, h3⟩ := h.take (k + 1)
  have hlt : k < bs.length := by
    rw [List.getElem?_eq_some_iff] at hk
    exact hk.1
  have e : bs.take (k + 1) = bs.take k ++ [b] := by
    rw [List.take_add_one, hk]; rfl
  rw [e] at h2 h3
  rw [txt_snoc, List.length_append] at h2 h3
  have e2 : S = txt (bs.take k) ++ b.text ++ S.drop ((txt (bs.take k)).length + b.text.length) := by
    have := List.take_append_drop ((txt (bs.take k)).length + b.text.length) S
    rw [h2] at this
    exact this.symm
  have e3 : S.drop (txt (bs.take k)).length = b.text ++ S.drop ((txt (bs.take k)).length + b.text.length) := by
    conv => lhs; rw [e2]
    rw [List.append_assoc, List.drop_left']
    rfl
  rw [e3]
  exact parse_text b hok _
/-- two readings of the same bytes agree -/
theorem Rdg.det {S : List UInt8} {bs cs : List Bl} (h : Rdg S bs) (g : Rdg S cs) : ∀ k, k ≤ bs.length → k ≤ cs.length → bs.take k = cs.take k
  | 0, _, _ => by simp
  | k + 1, hb, hc => by
    have ih := Rdg.det h g k (by omega) (by omega)
    have e1 := h.at_ (List.getElem?_eq_getElem (by omega : k < bs.length))
    have e2 := g.at_ (List.getElem?_eq_getElem (by omega : k < cs.length))
    rw [ih] at e1
    rw [e1] at e2
    have e3 := Option.some.inj e2
    rw [List.take_succ_eq_append_getElem (by omega), List.take_succ_eq_append_getElem (by omega), ih, e3]
/-- how a reading ends: 0: behind the last byte; 1: no block; 2: its number is wrong; 3: it is too much data -/
def Why (S : List UInt8) (bs : List Bl) (c : Nat) : Prop :=
  (c = 0 ∧ (txt bs).length = S.length) ∨ ((txt bs).length < S.length ∧ ((c = 1 ∧ parse (S.drop (txt bs).length) = none) ∨ ∃ b, parse (S.drop (txt bs).length) = some b ∧ ((c = 2 ∧ b.n ≠ (bs.length : Int)) ∨ (c = 3 ∧ b.n = (bs.length : Int) ∧ 2000 < zs bs + b.z.toNat))))
structure Stop (S : List UInt8) (bs : List Bl) (c : Nat) : Prop where
  brd : Rdg S bs
  le : zs bs ≤ 2000
  why : Why S bs c
theorem text_pos (b : Bl) : 0 < b.text.length := by rw [b.text_len]; omega
theorem txt_take_lt {bs : List Bl} {k : Nat} {b : Bl} (h : bs[k]? = some b) : (txt (bs.take k)).length < (txt bs).length := by
  have hlt : k < bs.length := by
    rw [List.getElem?_eq_some_iff] at h
    exact h.1
  have e : txt bs = txt (bs.take k) ++ txt (bs.drop k) := by rw [← txt_app, List.take_append_drop]
  have e2 : bs.drop k = bs[k] :: bs.drop (k + 1) := List.drop_eq_getElem_cons hlt
  have := text_pos bs[k]
  rw [e, e2, List.length_append]
  simp only [txt, List.flatMap_cons, List.length_append]
  omega
theorem zs_take_le (bs : List Bl) (k : Nat) : zs (bs.take k) ≤ zs bs := by
  have e : bs = bs.take k ++ bs.drop k := (List.take_append_drop k bs).symm
  have : zs bs = zs (bs.take k) + zs (bs.drop k) := by
    conv => lhs; rw [e]
    rw [zs_app]
  omega
/-- there is one way in which a reading ends -/
theorem Stop.le_of {S : List UInt8} {bs cs : List Bl} {c d : Nat} (h : Stop S bs c) (g : Rdg S cs) (gz : zs cs ≤ 2000) : cs.length ≤ bs.length := by
  rcases Nat.lt_or_ge bs.length cs.length with hlt | hge
  · exfalso
    have e := h.brd.det g bs.length (Nat.le_refl _) (by omega)
    rw [List.take_length] at e
    have hk : cs[bs.length]? = some cs[bs.length] := List.getElem?_eq_getElem hlt
    have hp := g.at_ hk
    have hn := (g.1 _ _ hk).2
    rw [← e] at hp
    have hl := txt_take_lt hk
    rw [← e] at hl
    have hz := zs_take_le cs (bs.length + 1)
    rw [List.take_add_one, hk, ← e] at hz
    have hz2 : zs (bs ++ [cs[bs.length]]) ≤ zs cs := hz
    rw [zs_snoc] at hz2
    have h3 := g.2.2
    rcases h.why with ⟨_, h0⟩ | ⟨_, ⟨_, h1⟩ | ⟨b, h1, ⟨_, h2⟩ | ⟨_, _, h2⟩⟩⟩
    · omega
    · rw [h1] at hp; cases hp
    · rw [h1] at hp
      obtain rfl := Option.some.inj hp
      exact h2 hn
    · rw [h1] at hp
      obtain rfl := Option.some.inj hp
      omega
  · exact hge
theorem Stop.one {S : List UInt8} {bs cs : List Bl} {c d : Nat} (h : Stop S bs c) (g : Stop S cs d) : bs = cs ∧ c = d := by
  have l1 := h.le_of (d := d) g.brd g.le
  have l2 := g.le_of (d := c) h.brd h.le
  have hl : bs.length = cs.length := by omega
  have e := h.brd.det g.brd bs.length (Nat.le_refl _) (by omega)
  rw [List.take_length, hl, List.take_length] at e
  refine ⟨e, ?_⟩
  subst e
  rcases h.why with ⟨a0, h0⟩ | ⟨a0, ⟨a1, h1⟩ | ⟨b, h1, ⟨a2, h2⟩ | ⟨a2, a3, h2⟩⟩⟩ <;> rcases g.why with ⟨b0, g0⟩ | ⟨b0, ⟨b1, g1⟩ | ⟨b', g1, ⟨b2, g2⟩ | ⟨b2, b3, g2⟩⟩⟩ <;> first | omega | (exfalso; rw [g1] at h1; cases h1; done) | (rw [g1] at h1; obtain rfl := Option.some.inj h1; omega)
/-- each reading ends -/
theorem stop_from (S : List UInt8) : ∀ (m : Nat) (bs : List Bl), Rdg S bs → zs bs ≤ 2000 → S.length - (txt bs).length ≤ m → ∃ cs c, Stop S cs c
  | 0, bs, h, hz, hm => ⟨bs, 0, h, hz, Or.inl ⟨rfl, by have := h.2.2; omega⟩⟩
  | m + 1, bs, h, hz, hm => by
    by_cases hl : (txt bs).length < S.length
    · cases hp : parse (S.drop (txt bs).length) with
      | none => exact ⟨bs, 1, h, hz, Or.inr ⟨hl, Or.inl ⟨rfl, hp⟩⟩⟩
      | some b =>
        by_cases hn : b.n = (bs.length : Int)
        · by_cases h2 : 2000 < zs bs + b.z.toNat
          · exact ⟨bs, 3, h, hz, Or.inr ⟨hl, Or.inr ⟨b, hp, Or.inr ⟨rfl, hn, h2⟩⟩⟩⟩
          · refine stop_from S m (bs ++ [b]) (h.next hp hn) (by rw [zs_snoc]; omega) ?_
            rw [txt_snoc, List.length_append]
            have := text_pos b
            omega
        · exact ⟨bs, 2, h, hz, Or.inr ⟨hl, Or.inr ⟨b, hp, Or.inl ⟨rfl, hn⟩⟩⟩⟩
    · exact ⟨bs, 0, h, hz, Or.inl ⟨rfl, by have := h.2.2; omega⟩⟩
theorem stop_ex (S : List UInt8) : ∃ cs c, Stop S cs c := stop_from S S.length [] (Rdg.nil S) (by simp [zs]) (by omega)
theorem Stop.code {S : List UInt8} {bs : List Bl} {c : Nat} (h : Stop S bs c) : c ≤ 3 := by
  rcases h.why with ⟨a0, h0⟩ | ⟨a0, ⟨a1, h1⟩ | ⟨b, h1, ⟨a2, h2⟩ | ⟨a2, a3, h2⟩⟩⟩ <;> omega
theorem Rdg.len_le {S : List UInt8} {bs : List Bl} (h : Rdg S bs) : bs.length ≤ 40 := by
  rcases Nat.lt_or_ge 40 bs.length with hlt | hge
  · exfalso
    obtain ⟨⟨h1, _⟩, h2⟩ := h.1 40 bs[40] (List.getElem?_eq_getElem hlt)
    omega
  · exact hge
theorem Rdg.txt_le {S : List UInt8} {bs : List Bl} (h : Rdg S bs) : (txt bs).length ≤ 74 * bs.length := by
  have key : ∀ l : List Bl, (∀ b ∈ l, b.ok) → (txt l).length ≤ 74 * l.length := by
    intro l
    induction l with
    | nil => intro _; simp [txt]
    | cons b t ih =>
      intro hb
      have h1 := ih (fun c hc => hb c (List.mem_cons_of_mem _ hc))
      have h2 := b.len (hb b List.mem_cons_self)
      have h3 := b.text_len
      have e : txt (b :: t) = b.text ++ txt t := by simp [txt]
      rw [e, List.length_append, List.length_cons]
      omega
  refine key bs fun b hb => ?_
  obtain ⟨i, hi, rfl⟩ := List.getElem_of_mem hb
  exact (h.1 i _ (List.getElem?_eq_getElem hi)).1
end

section
open Go.ChangeShapes Go.WideShapes Go.ChangeAt Go.RowKit Go.Joins
set_option linter.unusedVariables false

/-- the two numbers of a checksum behind k bytes -/
def SumAt (s : ByteArray) (k x y : Nat) : Prop := x = M.sm (s.data.toList.take k) % 255 ∧ y = M.sw (s.data.toList.take k) % 255
theorem SumAt.next {s : ByteArray} {k x y : Nat} (h : SumAt s k x y) (hk : k < s.size) : SumAt s (k + 1) ((x + (s[k]).toNat) % 255) ((y + (x + (s[k]).toNat) % 255) % 255) := by
  obtain ⟨rfl, rfl⟩ := h
  rw [SumAt, take_snoc s k hk, M.sm_snoc, M.sw_snoc]
  omega
theorem SumAt.whole {s : ByteArray} {k x y : Nat} (h : SumAt s k x y) (hk : s.size ≤ k) : 256 * y + x = M.ck s.data.toList := by
  obtain ⟨rfl, rfl⟩ := h
  rw [List.take_of_length_le (by simpa using hk), M.ck]

theorem ck_end1 {x y K : Nat} (h : 256 * y + x = K) : (y : Int) * 256 + x = K := by omega
theorem ck_end2 {x y K : Nat} (h : 256 * y + x = K) : 256 * (y : Int) + x = K := by omega

theorem c_SumOf (s : ByteArray) (w : World) (hs : s.size ≤ maxLen) : Calls Tryz.prog 62 #[.string s] w (Same (.int .i64 (M.ck s.data.toList)) w) := by
  unfold maxLen at hs
  go_enter Tryz.func62, Tryz.ntmps62
  go_wp2_with fail
  go_loop [3, 4, 8] (fun a b i => ∃ k x y : Nat, k ≤ s.size ∧ i = .int .i64 k ∧ a = .int .i64 x ∧ b = .int .i64 y ∧ x < 255 ∧ y < 255 ∧ Hid (SumAt s k x y)) (fun _ _ i => s.size - (intOf i).toNat)
  case atStart => exact ⟨0, 0, 0, Nat.zero_le _, rfl, rfl, rfl, by omega, by omega, hid ⟨rfl, rfl⟩⟩
  case round =>
    obtain ⟨k, x, y, hk, rfl, rfl, rfl, hx, hy, HK⟩ := hrel
    by_cases hlt : k < s.size
    · have hb8 := byte_le s k hlt
      have HN := hid (HK.out.next hlt)
      go_wp2
      go_round
      case rel => exact ⟨k + 1, (x + (s[k]).toNat) % 255, (y + (x + (s[k]).toNat) % 255) % 255, by omega, by go_num, vint (by omega), vint (by omega), by omega, by omega, HN⟩
      case measure => simp [intOf]; omega
    · have HW := hid (HK.out.whole (by omega))
      go_wp2
      go_ret
      exact ⟨ret_int (ck_end1 HW.out), rfl⟩

theorem c_sSumOf (s : ByteArray) (w : World) (hs : s.size ≤ maxLen) : Calls Tryz.prog 64 #[.string s] w (Same (.int .i64 (M.ck s.data.toList)) w) := by
  unfold maxLen at hs
  go_enter Tryz.func64, Tryz.ntmps64
  go_wp2_with fail
  go_loop [3, 4, 5] (fun a b i => ∃ k x y : Nat, k ≤ s.size ∧ i = .int .i64 k ∧ a = .int .i64 x ∧ b = .int .i64 y ∧ x < 255 ∧ y < 255 ∧ Hid (SumAt s k x y)) (fun _ _ i => s.size - (intOf i).toNat)
  case atStart => exact ⟨0, 0, 0, Nat.zero_le _, rfl, rfl, rfl, by omega, by omega, hid ⟨rfl, rfl⟩⟩
  case round =>
    obtain ⟨k, x, y, hk, rfl, rfl, rfl, hx, hy, HK⟩ := hrel
    by_cases hlt : k < s.size
    · have hb8 := byte_le s k hlt
      have HN := hid (HK.out.next hlt)
      go_wp2
      go_round
      case rel => exact ⟨k + 1, (x + (s[k]).toNat) % 255, (y + (x + (s[k]).toNat) % 255) % 255, by omega, by go_num, vint (by omega), vint (by omega), by omega, by omega, HN⟩
      case measure => simp [intOf]; omega
    · have HW := hid (HK.out.whole (by omega))
      go_wp2
      go_ret
      exact ⟨ret_int (ck_end2 HW.out), rfl⟩
end

section
open Go.ChangeShapes Go.WideShapes Go.ChangeAt Go.RowKit Go.Joins
set_option linter.unusedVariables false

theorem y_elem {w : World} {B : Nat} {e : TypeId} {size n : Nat} {v : Value} {xs : List Value} (h : w.ownsRow B e size v n xs) (b : Nat) (hb : v.ownBlock = some b) : ∃ cs, w.heap[b]? = some (.cells cs e (0, 0)) := by
  rcases h.2 with ⟨rfl, _⟩ | ⟨g, cap', cur, rfl, _, hh, _⟩
  · simp [Value.ownBlock] at hb
  · have e3 : g = b := by simpa [Value.ownBlock] using hb
    subst e3
    exact ⟨cur, hh⟩
theorem y_apart_blk {w : World} {B : Nat} {e t : TypeId} {size n b : Nat} {v : Value} {xs : List Value} {cs : Array Value} (h : w.ownsRow B e size v n xs) (hk : Blk w b t cs) (ht : t ≠ e) : some b ≠ v.ownBlock := by
  intro e3
  obtain ⟨c1, h3⟩ := y_elem h b e3.symm
  have h5 := hk.symm.trans h3
  simp at h5
  exact ht h5.2
/-- a box of another type stays, whatever is done to the row -/
theorem y_box {w w' : World} {B b : Nat} {e t : TypeId} {size n : Nat} {v : Value} {xs : List Value} {cs : Array Value} (hk : Blk w b t cs) (ho : w.ownsRow B e size v n xs) (ht : t ≠ e) (hg : w.grownBy w' v.ownBlock) : Blk w' b t cs := hk.grown hg (y_apart_blk ho hk ht)
/-- a box below the row stays -/
theorem y_low {w w' : World} {B b : Nat} {e t : TypeId} {size n : Nat} {v : Value} {xs : List Value} {cs : Array Value} (hk : Blk w b t cs) (ho : w.ownsRow B e size v n xs) (hb : b < B) (hg : w.grownBy w' v.ownBlock) : Blk w' b t cs := hk.grown hg fun e3 => by have := (ho.lt b e3.symm).1; omega
theorem y_bel {w W w' : World} {B : Nat} {e : TypeId} {size n : Nat} {v : Value} {xs : List Value} (hB : Below w.heap.size w W) (ho : W.ownsRow B e size v n xs) (hw : w.heap.size ≤ B) (hg : W.grownBy w' v.ownBlock) : Below w.heap.size w w' :=
  hB.trans (below_of_grown hg hB.size (fun g e => by have := (ho.lt g e).1; omega))
/-- a row of another type stays, whatever is done to the row -/
theorem y_row {w w' : World} {B B2 : Nat} {e e2 : TypeId} {size size2 n n2 : Nat} {v v2 : Value} {xs xs2 : List Value} (h : w.ownsRow B e size v n xs) (h2 : w.ownsRow B2 e2 size2 v2 n2 xs2) (ht : e ≠ e2) (hg : w.grownBy w' v2.ownBlock) : w'.ownsRow B e size v n xs :=
  h.kept hg (by
    cases hv : v.ownBlock with
    | none => exact .inl rfl
    | some b =>
      refine .inr (fun e3 => ht ?_)
      obtain ⟨c1, h3⟩ := y_elem h b hv
      obtain ⟨c2, h4⟩ := y_elem h2 b e3.symm
      have h5 := h3.symm.trans h4
      simp at h5
      exact h5.2)
/-- an older row stays, whatever is done to a younger one -/
theorem y_old {w w' : World} {B B2 : Nat} {e e2 : TypeId} {size size2 n n2 : Nat} {v v2 : Value} {xs xs2 : List Value} (h : w.ownsRow B e size v n xs) (hu : ∀ g, v.ownBlock = some g → g < B2) (h2 : w.ownsRow B2 e2 size2 v2 n2 xs2) (hg : w.grownBy w' v2.ownBlock) : w'.ownsRow B e size v n xs :=
  h.kept hg (by
    cases hv : v.ownBlock with
    | none => exact .inl rfl
    | some b =>
      refine .inr (fun e3 => ?_)
      have h3 := hu b hv
      have h4 := (h2.lt b e3.symm).1
      omega)
theorem y_on {w w' : World} {B : Nat} {e : TypeId} {size : Nat} {v : Value} {n : Nat} {xs : List Value} (h : w.ownsRow B e size v n xs) (hb : Below w.heap.size w w') : w'.ownsRow B e size v n xs :=
  h.kept (grown_below none hb) (by cases hv : v.ownBlock <;> simp)
theorem y_mono {w : World} {B B' : Nat} {e : TypeId} {size : Nat} {v : Value} {n : Nat} {xs : List Value} (h : w.ownsRow B e size v n xs) (hB : B' ≤ B) : w.ownsRow B' e size v n xs := by
  refine ⟨h.1, ?_⟩
  rcases h.2 with h1 | ⟨g, cap', cur, e1, hb, h2⟩
  · exact .inl h1
  · exact .inr ⟨g, cap', cur, e1, by omega, h2⟩
theorem Blk.cells4y {w : World} {g : Nat} {t : TypeId} {a b c d : Value} (h : Blk w g t #[a, b, c, d]) : w.cell? ⟨g, 0, none⟩ = some a ∧ w.cell? ⟨g, 1, none⟩ = some b ∧ w.cell? ⟨g, 2, none⟩ = some c ∧ w.cell? ⟨g, 3, none⟩ = some d := ⟨h.cell 0, h.cell 1, h.cell 2, h.cell 3⟩
theorem Blk.cells5y {w : World} {g : Nat} {t : TypeId} {a b c d e : Value} (h : Blk w g t #[a, b, c, d, e]) : w.cell? ⟨g, 0, none⟩ = some a ∧ w.cell? ⟨g, 1, none⟩ = some b ∧ w.cell? ⟨g, 2, none⟩ = some c ∧ w.cell? ⟨g, 3, none⟩ = some d ∧ w.cell? ⟨g, 4, none⟩ = some e := ⟨h.cell 0, h.cell 1, h.cell 2, h.cell 3, h.cell 4⟩
theorem Tryz.info_u8y : (Tryz.prog.info? 5).map (fun i => (i.zero, i.size, i.bytes)) = some (some (.int .u8 0), 1, 1) := by kernel_rfl
/-- a row of bytes as a string -/
theorem run_rowy {P : Program} {w : World} {B : Nat} {e : TypeId} {n : Nat} {v : Value} {l : List UInt8} {src dst : TypeId} (hs : P.underlying src = some (.slice e)) (he : P.underlying e = some (.int .u8)) (hd : P.underlying dst = some .string)
    (h : w.ownsRow B e 1 v n (l.map vb)) : (convert src dst v).run P w = .ok (.string (str l)) w := run_str hs he hd h

/-! ### Regions whose operations read, or call what only makes new memory: one walk in the order of the text -/
section
variable {P : Program} {ops : Array Oper} {S : World → Prop} {Q : Act → Prop} {rest : List Oper} {oi : Oper}

theorem qbegin {id : Nat} {Q : Exit → Act → World → Prop} {a : Act} {w : World} {l : List Oper} (hm : P.follows .mixedOrders = true) (hB : Region.lexB .any l.toArray = true) (hS : S w.drew)
    (h : wpQuiet P l.toArray S (fun a' => ∀ w', S w' → Q .normal a' w') l a) : (Code.region id l.toArray true).wp P Q a w :=
  wp_region_quiet (C := S) hm hB hS (by simpa using h)
/-- an operation that reads -/
theorem qk {v : Value} {a a' : Act} (h : wpQuiet P ops S Q rest a')
    (hw : Region.wanted oi (yielded ops a.tmps) = true := by rfl)
    (hy : ∀ w, S w → (execOp a.eval oi).run P w = .ok (.value v) w := by exact fun v hSw => by ((try dsimp only at hSw); go_simp; try with_reducible rfl))
    (ha : a.put oi.dst v = a' := by ((try simp only [Act.put, List.setIfInBounds_toArray, List.set_cons_zero, List.set_cons_succ]); rfl)) : wpQuiet P ops S Q (oi :: rest) a := by
  subst ha
  refine wpQuiet_step fun K hK => ?_
  rw [if_pos hw]
  exact ⟨v, fun w hS => by unfold Oper.quietAt; rw [hy w hS]; exact ⟨rfl, rfl⟩, hK _ h⟩
/-- one that is not wanted -/
theorem qu {a a' : Act} (h : wpQuiet P ops S Q rest a')
    (hw : Region.wanted oi (yielded ops a.tmps) = false := by rfl)
    (ha : a.put oi.dst undef = a' := by ((try simp only [Act.put, List.setIfInBounds_toArray, List.set_cons_zero, List.set_cons_succ]); rfl)) : wpQuiet P ops S Q (oi :: rest) a := by
  subst ha
  refine wpQuiet_step fun K hK => ?_
  rw [if_neg (by rw [hw]; simp)]
  exact hK _ h
/-- a call that only makes new memory -/
theorem qc {v : Value} {f : FuncId} {args : Array Value} {a a' : Act} (hc : ∀ w, S w → Calls P f args w fun e w' => e = .returned v ∧ Below w.heap.size w w') (hk : ∀ w w', Below w.heap.size w w' → S w → S w') (h : wpQuiet P ops S Q rest a')
    (hw : Region.wanted oi (yielded ops a.tmps) = true := by rfl)
    (he : ∀ w, S w → (execOp a.eval oi).run P w = .ok (.enter f args) w := by exact fun v hSw => by ((try dsimp only at hSw); go_simp; first | done | exact ⟨rfl, rfl⟩ | with_reducible rfl))
    (ha : a.put oi.dst v = a' := by ((try simp only [Act.put, List.setIfInBounds_toArray, List.set_cons_zero, List.set_cons_succ]); rfl)) : wpQuiet P ops S Q (oi :: rest) a := by
  subst ha
  refine wpQuiet_step fun K hK => ?_
  rw [if_pos hw]
  exact ⟨v, fun w hS => by unfold Oper.quietAt; rw [he w hS]; exact ⟨rfl, (hc w hS).mono fun e w' ⟨h1, h2⟩ => ⟨h1, hk w w' h2 hS⟩⟩, hK _ h⟩
end
theorem same_bel {P : Program} {f : FuncId} {args : Array Value} {v : Value} {w : World} (h : Calls P f args w (fun e w' => e = .returned v ∧ w = w')) : Calls P f args w fun e w' => e = .returned v ∧ Below w.heap.size w w' :=
  h.mono fun e w' ⟨h1, h2⟩ => ⟨h1, h2 ▸ Below.refl _ _⟩
/-- 'out = append(out, s...)' of a string's bytes, as a step of a region -/
theorem y_step_str {P : Program} {w : World} {ops : Array Oper} {o : Oper} {a : Act} {K : Act → World → Prop} {Q : Exit → Act → World → Prop} {E : Prop} (hgd : o.guard = none) (sl x : Operand) (t u : TypeId)
    (ho : o.op = .call { callee := .builtin .append, args := #[sl, x], argTypes := #[t, u] }) (B : Nat) (e : TypeId) (ht : P.underlying t = some (.slice e)) (hu : P.underlying u = some .string)
    (hinfo : (P.info? e).map (fun i => (i.zero, i.size, i.bytes)) = some (some (.int .u8 0), 1, 1)) (v : Value) (n : Nat) (l : List UInt8) (hs : a.eval sl = v) (hown : w.ownsRow B e 1 v n (l.map vb)) (s : ByteArray) (hx : a.eval x = .string s)
    (hn : n + s.size ≤ 100000000000) (hB : B ≤ w.heap.size)
    (h : ∀ v' w', w'.ownsRow B e 1 v' (n + s.size) ((l ++ s.data.toList).map vb) → Below B w w' → w.grownBy w' v.ownBlock → K (a.put o.dst v') w') : if Region.wanted o (yielded ops a.tmps) = true then Oper.wp P o a w K Q else E := by
  have hw : Region.wanted o (yielded ops a.tmps) = true := by simp [Region.wanted, hgd]
  rw [if_pos hw]
  obtain ⟨i0, hi, hz0, hz1, hz2⟩ := info_parts hinfo
  obtain ⟨v', w', hr, hown', hg, _⟩ := Lib.run_append_own_string (P := P) w B t u o.type e i0 ht hu hi hz0 hz1 hz2 v n (l.map vb) hown s (by unfold maxLen; omega) (by omega) hB
  unfold Oper.wp execOp
  simp only [ho, resolve, invoke, builtin, Sem.run_bind, Sem.run_pure, Result.andThen_ok, List.map_toArray, List.map_cons, List.map_nil, hs, hx, hr]
  exact h v' w' (by rw [List.map_append]; exact hown') (below_of_grown hg hB (fun g hg => (hown.lt g hg).1)) hg
end

section
open Go.ChangeShapes Go.WideShapes Go.ChangeAt Go.RowKit Go.Joins
set_option linter.unusedVariables false
set_option linter.unusedSimpArgs false

theorem run_two {P : Program} {e src dst : TypeId} (hs : P.underlying src = some (.slice e)) (he : P.underlying e = some (.int .u8)) (hd : P.underlying dst = some .string) (n : Nat) (w : World) :
    (convert src dst (.slice (some ⟨w.heap.size, 0, none⟩) 2 2)).run P (w.alloc (.cells #[.int .u8 ((n : Int) / 256 % 256), .int .u8 ((n : Int) % 256)] e)) = .ok (.string (str (two n))) (w.alloc (.cells #[.int .u8 ((n : Int) / 256 % 256), .int .u8 ((n : Int) % 256)] e)) := by
  refine run_convert_bytes_back (l := two n) _ src dst e ⟨w.heap.size, 0, none⟩ 2 hs he hd ?_
  intro j hj
  have h0 : (((UInt8.ofNat (n / 256)).toNat : Nat) : Int) = (n : Int) / 256 % 256 := by rw [UInt8.toNat_ofNat']; omega
  have h1 : (((UInt8.ofNat n).toNat : Nat) : Int) = (n : Int) % 256 := by rw [UInt8.toNat_ofNat']; omega
  refine two_new w _ _ e j _ ?_
  match j, hj with
  | 0, _ => simp only [two, List.getElem_cons_zero, h0]; rfl
  | 1, _ => simp only [two, List.getElem_cons_succ, List.getElem_cons_zero, h1]; rfl

set_option maxRecDepth 100000 in
theorem c_l4Two (n : Nat) (w : World) (h : n ≤ 9223372036854775807) : Calls Tryz.prog 63 #[.int .i64 (n : Int)] w fun e w' => e = .returned (.string (str (two n))) ∧ Below w.heap.size w w' := by
  have hc := run_two Tryz.underlying22 Tryz.underlying5 Tryz.underlying9 n
  go_enter Tryz.func63, Tryz.ntmps63
  go_wp2
  go_ret
  exact ⟨rfl, by exact obB⟩

set_option maxRecDepth 100000 in
theorem c_twoBytes (n : Nat) (w : World) (h : n ≤ 9223372036854775807) : Calls Tryz.prog 61 #[.int .i64 (n : Int)] w fun e w' => e = .returned (.string (str (two n))) ∧ Below w.heap.size w w' := by
  have hc := run_two Tryz.underlying22 Tryz.underlying5 Tryz.underlying9 n
  go_enter Tryz.func61, Tryz.ntmps61
  go_wp2
  go_ret
  exact ⟨rfl, by exact obB⟩

/-- the layout of a header, as the program's text lays it -/
def Lay (w : World) : Prop := ∃ t, w.heap[ 1 ]? = some (.cells #[.int .i64 1, .int .i64 181, .int .i64 181, .int .i64 1, .int .i64 0, .int .i64 1, .int .i64 2, .int .i64 0, .int .i64 39, .int .i64 2, .int .i64 1, .int .i64 64, .int .i64 2, .int .i64 1, .int .i64 64] t (0, 0))

theorem Lay.on {w w' : World} (h : Lay w) (hb : Below w.heap.size w w') : Lay w' := by
  obtain ⟨t, h⟩ := h
  exact ⟨t, (Blk.on (t := t) h hb)⟩

/-- a byte that is a number's lowest one -/
theorem u8_low (X : Int) (h : 0 ≤ X) : X % 256 = ((UInt8.ofNat X.toNat).toNat : Int) := by
  rw [UInt8.toNat_ofNat']; omega

theorem c_allows (c lo hi n : Int) (w : World) : Calls Tryz.prog 26 #[.agg #[.int .i64 c, .int .i64 lo, .int .i64 hi], .int .i64 n] w fun e w' => e = .returned (.bool (inB n lo hi)) ∧ Below w.heap.size w w' := by
  by_cases h1 : lo ≤ n
  · by_cases h2 : n ≤ hi
    all_goals
      go_enter Tryz.func26, Tryz.ntmps26
      go_wp2
      go_ret
      exact ⟨ret_bool (by simp [inB]; omega), by exact obB⟩
  · go_enter Tryz.func26, Tryz.ntmps26
    go_wp2
    go_ret
    exact ⟨ret_bool (by simp [inB]; omega), by exact obB⟩

theorem Lay.cells {w : World} (h : Lay w) : w.cell? ⟨1, 0, none⟩ = some (.int .i64 1) ∧ w.cell? ⟨1, 1, none⟩ = some (.int .i64 181) ∧ w.cell? ⟨1, 2, none⟩ = some (.int .i64 181) ∧ w.cell? ⟨1, 3, none⟩ = some (.int .i64 1) ∧ w.cell? ⟨1, 4, none⟩ = some (.int .i64 0) ∧ w.cell? ⟨1, 5, none⟩ = some (.int .i64 1) ∧ w.cell? ⟨1, 6, none⟩ = some (.int .i64 2) ∧ w.cell? ⟨1, 7, none⟩ = some (.int .i64 0) ∧ w.cell? ⟨1, 8, none⟩ = some (.int .i64 39) ∧ w.cell? ⟨1, 9, none⟩ = some (.int .i64 2) ∧ w.cell? ⟨1, 10, none⟩ = some (.int .i64 1) ∧ w.cell? ⟨1, 11, none⟩ = some (.int .i64 64) ∧ w.cell? ⟨1, 12, none⟩ = some (.int .i64 2) ∧ w.cell? ⟨1, 13, none⟩ = some (.int .i64 1) ∧ w.cell? ⟨1, 14, none⟩ = some (.int .i64 64) ∧ 1 < w.heap.size := by
  obtain ⟨t, h⟩ := h
  have c := fun i => cell_of_row w 1 i _ t (0, 0) h
  exact ⟨c 0, c 1, c 2, c 3, c 4, c 5, c 6, c 7, c 8, c 9, c 10, c 11, c 12, c 13, c 14, Blk.lt (t := t) h⟩

/-- a string of one byte that stands in memory -/
theorem run_oney {P : Program} {w : World} {g : Nat} {e src dst : TypeId} (hs : P.underlying src = some (.slice e)) (he : P.underlying e = some (.int .u8)) (hd : P.underlying dst = some .string) {c : UInt8} (hc : w.cell? ⟨g, 0, none⟩ = some (.int .u8 (c.toNat : Int))) :
    (convert src dst (.slice (some ⟨g, 0, none⟩) 1 1)).run P w = .ok (.string (str [c])) w := by
  refine run_convert_bytes_back (l := [c]) _ src dst e ⟨g, 0, none⟩ 1 hs he hd ?_
  intro j hj
  have : j = 0 := by simpa using hj
  subst this
  have e0 : ((⟨g, 0, none⟩ : Addr).add 0) = ⟨g, 0, none⟩ := by simp [Addr.add]
  rw [e0, hc]
  rfl

theorem Bl.inner_str (b : Bl) : str [b.kind] ++ str (two b.n.toNat) ++ str (two b.z.toNat) ++ str (two b.body.size) ++ b.body = str b.inner := by
  rw [← str_self b.body]
  simp only [str_append, str_size, len_toList, Bl.inner]
  simp [str_list, str_size, len_toList]

theorem Bl.text_str (b : Bl) : str [181] ++ str b.inner ++ str (two (M.ck b.inner)) = str b.text := by
  simp only [str_append, Bl.text]
  simp
end

section
open Go.ChangeShapes Go.WideShapes Go.ChangeAt Go.RowKit Go.Joins
set_option linter.unusedVariables false
set_option linter.unusedSimpArgs false

theorem Bl.hdr (b : Bl) (hk : b.kind.toNat ≤ 1) : (181 :: UInt8.ofNat b.kind.toNat :: (two b.n.toNat ++ two b.z.toNat ++ two b.body.size)) ++ b.body.data.toList = 181 :: b.inner := by
  have : UInt8.ofNat b.kind.toNat = b.kind := by simp
  simp [Bl.inner, this]
end

section
open Go.ChangeShapes Go.WideShapes Go.ChangeAt Go.RowKit Go.Joins
set_option linter.unusedVariables false
set_option linter.unusedSimpArgs false

theorem okB_no1 {b : Bl} (h : inB b.n 0 39 = false) : decide b.ok = false := decide_eq_false fun hb => by have := inB_iff.2 hb.1; rw [h] at this; cases this

theorem okB_no2 {b : Bl} (h : inB b.z 1 64 = false) : decide b.ok = false := decide_eq_false fun hb => by have := inB_iff.2 hb.2.1; rw [h] at this; cases this

theorem okB_no3 {b : Bl} (h : inB b.body.size 1 64 = false) : decide b.ok = false := decide_eq_false fun hb => by
  have := b.len hb
  have h2 : inB (b.body.size : Int) 1 64 = true := inB_iff.2 (by omega)
  rw [h] at h2; cases h2

theorem okB_raw {b : Bl} (h1 : inB b.n 0 39 = true) (h2 : inB b.z 1 64 = true) (hr : b.raw = true) : decide b.ok = ((b.body.size : Int) == b.z) := by
  have h1 := inB_iff.1 h1
  have h2 := inB_iff.1 h2
  rw [Bool.eq_iff_iff]
  simp [Bl.ok, hr]
  omega

theorem okB_not {b : Bl} (h1 : inB b.n 0 39 = true) (h2 : inB b.z 1 64 = true) (h3 : inB b.body.size 1 64 = true) (hr : b.raw = false) : decide b.ok = decide ((b.body.size : Int) < b.z) := by
  have h1 := inB_iff.1 h1
  have h2 := inB_iff.1 h2
  have h3 := inB_iff.1 h3
  rw [Bool.eq_iff_iff]
  simp [Bl.ok, hr]
  omega
end

section
open Go.ChangeShapes Go.WideShapes Go.ChangeAt Go.RowKit Go.Joins
set_option linter.unusedVariables false
set_option linter.unusedSimpArgs false

theorem okB_not2 {b : Bl} (h1 : inB b.n 0 39 = true) (h2 : inB b.z 1 64 = true) (hr : b.raw = false) : decide b.ok = inB (b.body.size : Int) 1 (b.z - 1) := by
  have h1 := inB_iff.1 h1
  have h2 := inB_iff.1 h2
  rw [Bool.eq_iff_iff]
  simp [Bl.ok, hr, inB]
  omega

theorem Blk.put4y {w : World} {g : Nat} {t : TypeId} {a b c d : Value} (h : Blk w g t #[a, b, c, d]) (a' b' c' d' : Value) : Blk ((((w.setCell ⟨g, 0, none⟩ a').setCell ⟨g, 1, none⟩ b').setCell ⟨g, 2, none⟩ c').setCell ⟨g, 3, none⟩ d') g t #[a', b', c', d'] :=
  (((h.set_ 0 a').set_ 1 b').set_ 2 c').set_ 3 d'
end
end Go.Proofs.YtaiemogcboidhaaGreatDoor
