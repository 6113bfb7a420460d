/- TxAllA: TxP, TxQ, TxA, TxJ, TxE, TxH, TxW, TxK, TxY, in one text. -/
import Derived.Test.YtpoejbfcioijhaaGenA
import Derived.Test.YtpoejbfcioijhaaCellA
import Derived.Test.YtpoejbfcioijhaaCodAll
import Derived.Test.YtpoejbfcioijhaaBld
/- Plain: what is written is read, and nothing else; a transaction's bytes. -/
namespace Go.Proofs.Ytpoejbfcioijhaa
abbrev Rd (α : Type) := List UInt8 → Except Int (α × List UInt8)
/-- R reads what W writes of what is V, and nothing else; a beginning of it is too short -/
structure Good {α : Type} (W : α → List UInt8) (R : Rd α) (V : α → Prop) : Prop where
  fwd : ∀ a rest, V a → R (W a ++ rest) = .ok (a, rest)
  bwd : ∀ s a r, R s = .ok (a, r) → V a ∧ s = W a ++ r
  cut : ∀ a i, V a → i < (W a).length → R ((W a).take i) = .error 30
def thenR {α β : Type} (R1 : Rd α) (R2 : α → Rd β) : Rd (α × β) := fun s =>
  match R1 s with
  | .error e => .error e
  | .ok (a, r) => match R2 a r with
    | .error e => .error e
    | .ok (b, r') => .ok ((a, b), r')
theorem Good.then_ {α β : Type} {W1 : α → List UInt8} {R1 : Rd α} {V1 : α → Prop} {W2 : α → β → List UInt8} {R2 : α → Rd β} {V2 : α → β → Prop} (h1 : Good W1 R1 V1) (h2 : ∀ a, V1 a → Good (W2 a) (R2 a) (V2 a)) :
    Good (fun p : α × β => W1 p.1 ++ W2 p.1 p.2) (thenR R1 R2) (fun p => V1 p.1 ∧ V2 p.1 p.2) where
  fwd := by
    rintro ⟨a, b⟩ rest ⟨v1, v2⟩
    simp only [thenR, List.append_assoc, h1.fwd a _ v1, (h2 a v1).fwd b _ v2]
  bwd := by
    rintro s ⟨a, b⟩ r h
    unfold thenR at h
    split at h
    · cases h
    · rename_i a' r1 e1
      split at h
      · cases h
      · rename_i b' r2 e2
        injection h with h
        injection h with h3 h4
        injection h3 with h5 h6
        subst h5 h6 h4
        obtain ⟨v1, rfl⟩ := h1.bwd _ _ _ e1
        obtain ⟨v2, rfl⟩ := (h2 _ v1).bwd _ _ _ e2
        exact ⟨⟨v1, v2⟩, by rw [List.append_assoc]⟩
  cut := by
    rintro ⟨a, b⟩ i ⟨v1, v2⟩ hi
    simp only [List.length_append] at hi
    simp only [thenR]
    by_cases hl : i < (W1 a).length
    · rw [List.take_append_of_le_length (Nat.le_of_lt hl), h1.cut a i v1 hl]
    · rw [List.take_append, List.take_of_length_le (by omega), h1.fwd a _ v1]
      simp only
      rw [(h2 a v1).cut b (i - (W1 a).length) v2 (by omega)]
def mapR {α β : Type} (f : α → β) (R : Rd α) : Rd β := fun s =>
  match R s with
  | .error e => .error e
  | .ok (a, r) => .ok (f a, r)
theorem Good.map {α β : Type} {W : α → List UInt8} {R : Rd α} {V : α → Prop} (h : Good W R V) (f : α → β) (g : β → α) {V' : β → Prop} (hfg : ∀ b, V' b → f (g b) = b) (hgf : ∀ a, V a → g (f a) = a) (hv : ∀ b, V' b → V (g b)) (hv' : ∀ a, V a → V' (f a)) :
    Good (fun b => W (g b)) (mapR f R) V' where
  fwd := fun b rest v => by simp only [mapR, h.fwd (g b) rest (hv b v), hfg b v]
  bwd := by
    intro s b r e
    unfold mapR at e
    split at e
    · cases e
    · rename_i a r1 e1
      injection e with e
      injection e with e2 e3
      subst e2 e3
      obtain ⟨v, rfl⟩ := h.bwd _ _ _ e1
      exact ⟨hv' a v, by rw [hgf a v]⟩
  cut := fun b i v hi => by simp only [mapR, h.cut (g b) i (hv b v) hi]
def listR {α : Type} (R : Rd α) : Nat → Rd (List α)
  | 0 => fun s => .ok ([], s)
  | n + 1 => mapR (fun p : α × List α => p.1 :: p.2) (thenR R (fun _ => listR R n))
theorem Good.list {α : Type} {W : α → List UInt8} {R : Rd α} {V : α → Prop} (h : Good W R V) : ∀ n, Good (fun l : List α => l.flatMap W) (listR R n) (fun l => l.length = n ∧ ∀ x ∈ l, V x)
  | 0 => {
      fwd := fun a rest v => by
        obtain rfl : a = [] := List.length_eq_zero_iff.1 v.1
        rfl
      bwd := fun s a r e => by
        simp only [listR, Except.ok.injEq, Prod.mk.injEq] at e
        obtain ⟨rfl, rfl⟩ := e
        exact ⟨⟨rfl, by simp⟩, rfl⟩
      cut := fun a i v hi => by
        obtain rfl : a = [] := List.length_eq_zero_iff.1 v.1
        simp at hi }
  | n + 1 => {
      fwd := fun a rest v => by
        match a, v with
        | x :: l, v =>
          have v2 : l.length = n ∧ ∀ y ∈ l, V y := ⟨by simpa using v.1, fun y hy => v.2 y (List.mem_cons_of_mem _ hy)⟩
          have h1 := (Good.then_ h (fun _ _ => Good.list h n)).fwd (x, l) rest ⟨v.2 x (by simp), v2⟩
          simp only [listR, mapR, List.flatMap_cons, h1]
      bwd := fun s a r e => by
        simp only [listR] at e
        unfold mapR at e
        split at e
        · cases e
        · rename_i p r1 e1
          injection e with e
          injection e with e2 e3
          subst e2 e3
          obtain ⟨⟨v1, v2⟩, rfl⟩ := (Good.then_ h (fun _ _ => Good.list h n)).bwd _ _ _ e1
          exact ⟨⟨by simp [v2.1], fun y hy => (List.mem_cons.1 hy).elim (fun q => q ▸ v1) (v2.2 y)⟩, by rw [List.flatMap_cons]⟩
      cut := fun a i v hi => by
        match a, v with
        | x :: l, v =>
          have v2 : l.length = n ∧ ∀ y ∈ l, V y := ⟨by simpa using v.1, fun y hy => v.2 y (List.mem_cons_of_mem _ hy)⟩
          have h1 := (Good.then_ h (fun _ _ => Good.list h n)).cut (x, l) i ⟨v.2 x (by simp), v2⟩ (by simpa using hi)
          simp only [listR, mapR, List.flatMap_cons, h1] }
/-- wd bytes, a number -/
def getR (wd : Nat) : Rd Nat := fun s => if s.length < wd then .error 30 else .ok (getN (s.take wd), s.drop wd)
theorem good_get (wd : Nat) : Good (fun n => putL n wd) (getR wd) (fun n => n < 2 ^ (8 * wd)) where
  fwd := fun n rest v => by
    have hl := putL_len n wd
    unfold getR
    rw [if_neg (by rw [List.length_append]; omega), List.take_append_of_le_length (by omega), List.take_of_length_le (by omega), List.drop_append_of_le_length (by omega), List.drop_of_length_le (by omega), getN_putL, Nat.mod_eq_of_lt v]
    rfl
  bwd := fun s a r e => by
    unfold getR at e
    split at e
    · cases e
    · rename_i hl
      injection e with e
      injection e with e2 e3
      subst e2 e3
      have ht : (s.take wd).length = wd := by rw [List.length_take]; omega
      refine ⟨?_, ?_⟩
      · have := getN_lt (s.take wd)
        rwa [ht] at this
      · have := putL_getN (s.take wd)
        rw [ht] at this
        rw [this, List.take_append_drop]
  cut := fun n i _ hi => by
    rw [putL_len] at hi
    unfold getR
    rw [if_pos (by rw [List.length_take, putL_len]; omega)]
/-- a key -/
def keyR : Rd K32 := fun s => if h : s.length < 32 then .error 30 else .ok (⟨s.take 32, by rw [List.length_take]; omega⟩, s.drop 32)
theorem good_key : Good (fun k : K32 => k.1) keyR (fun _ => True) where
  fwd := fun k rest _ => by
    have hl := k.2
    unfold keyR
    rw [dif_neg (by rw [List.length_append]; omega)]
    congr 2
    · apply Subtype.ext
      show (k.1 ++ rest).take 32 = k.1
      rw [List.take_append_of_le_length (by omega), List.take_of_length_le (by omega)]
    · rw [List.drop_append_of_le_length (by omega), List.drop_of_length_le (by omega)]; rfl
  bwd := fun s a r e => by
    unfold keyR at e
    split at e
    · cases e
    · injection e with e
      injection e with e2 e3
      subst e2 e3
      exact ⟨trivial, by simp⟩
  cut := fun k i _ hi => by
    rw [k.2] at hi
    unfold keyR
    rw [dif_pos (by rw [List.length_take, k.2]; omega)]
/-- a number of things, at most 40 -/
def numR : Rd Nat := fun s => match readF s with
  | (n, r, e) => if e = 0 then (if 40 < n then .error 51 else .ok (n, r)) else .error e
theorem good_num : Good cmpL numR (fun n => n ≤ 40) where
  fwd := fun n rest v => by
    unfold numR
    rw [readF_cmp n rest (by omega)]
    simp only [if_true]
    rw [if_neg (by omega)]
  bwd := fun s a r e => by
    unfold numR at e
    rcases readF_cases s with ⟨n, r', h1, h2, _⟩ | h1 | h1
    · rw [h1] at e
      simp only [if_true] at e
      split at e
      · cases e
      · rename_i hn
        injection e with e
        injection e with e2 e3
        subst e2 e3
        exact ⟨by omega, h2.symm⟩
    · rw [h1] at e
      simp at e
    · rw [h1] at e
      simp at e
  cut := fun n i _ hi => by
    unfold numR
    rw [readF_cut n i hi]
    rfl
end Go.Proofs.Ytpoejbfcioijhaa
/- Plain: a transaction's bytes, read and written. -/
namespace Go.Proofs.Ytpoejbfcioijhaa
theorem wf_u32 {z : Int} : (Lit.int .u32 z).wf = true ↔ 0 ≤ z ∧ z < 4294967296 := by
  simp [Lit.wf, IntKind.min, IntKind.max, IntKind.signed, IntKind.bits]
  omega
theorem wf_i64 {z : Int} : (Lit.int .i64 z).wf = true ↔ -9223372036854775808 ≤ z ∧ z < 9223372036854775808 := by
  simp [Lit.wf, IntKind.min, IntKind.max, IntKind.signed, IntKind.bits]
  omega
def toU32 (n : Nat) : IntV .u32 := ⟨((n % 4294967296 : Nat) : Int), wf_u32.2 (by omega)⟩
def toI64 (n : Nat) : IntV .i64 := ⟨if n % 18446744073709551616 < 9223372036854775808 then ((n % 18446744073709551616 : Nat) : Int) else ((n % 18446744073709551616 : Nat) : Int) - 18446744073709551616, wf_i64.2 (by split <;> omega)⟩
def ofI64 (z : IntV .i64) : Nat := (z.1 % 18446744073709551616).toNat
def u32R : Rd (IntV .u32) := mapR toU32 (getR 4)
def i64R : Rd (IntV .i64) := mapR toI64 (getR 8)
theorem good_u32 : Good (fun z : IntV .u32 => putL z.1.toNat 4) u32R (fun _ => True) :=
  (good_get 4).map toU32 (fun z => z.1.toNat)
    (fun z _ => Subtype.ext (by have := wf_u32.1 z.2; show ((z.1.toNat % 4294967296 : Nat) : Int) = z.1; omega))
    (fun n h => by show (((n % 4294967296 : Nat) : Int)).toNat = n; have : n < 4294967296 := h; omega)
    (fun z _ => by have := wf_u32.1 z.2; show z.1.toNat < 4294967296; omega) (fun _ _ => trivial)
theorem good_i64 : Good (fun z : IntV .i64 => putL (ofI64 z) 8) i64R (fun _ => True) :=
  (good_get 8).map toI64 ofI64
    (fun z _ => Subtype.ext (by
      have := wf_i64.1 z.2
      show (if ofI64 z % 18446744073709551616 < 9223372036854775808 then ((ofI64 z % 18446744073709551616 : Nat) : Int) else ((ofI64 z % 18446744073709551616 : Nat) : Int) - 18446744073709551616) = z.1
      unfold ofI64
      split <;> omega))
    (fun n h => by
      have h' : n < 18446744073709551616 := h
      unfold ofI64 toI64
      simp only
      split <;> omega)
    (fun z _ => by show ofI64 z < 18446744073709551616; unfold ofI64; omega) (fun _ _ => trivial)
def ptB (p : K32 × IntV .u32) : List UInt8 := p.1.1 ++ putL p.2.1.toNat 4
def outB (p : IntV .i64 × K32) : List UInt8 := putL (ofI64 p.1) 8 ++ p.2.1
def ptR : Rd (K32 × IntV .u32) := thenR keyR (fun _ => u32R)
def outR : Rd (IntV .i64 × K32) := thenR i64R (fun _ => keyR)
theorem good_pt : Good ptB ptR (fun _ => True ∧ True) := good_key.then_ (fun _ _ => good_u32)
theorem good_out : Good outB outR (fun _ => True ∧ True) := good_i64.then_ (fun _ _ => good_key)
/-- how many there are, and each -/
def manyB {α : Type} (W : α → List UInt8) (l : List α) : List UInt8 := cmpL l.length ++ l.flatMap W
def manyR {α : Type} (R : Rd α) : Rd (List α) := mapR (·.2) (thenR numR (listR R))
theorem Good.many {α : Type} {W : α → List UInt8} {R : Rd α} {V : α → Prop} (h : Good W R V) : Good (manyB W) (manyR R) (fun l => l.length ≤ 40 ∧ ∀ x ∈ l, V x) :=
  (good_num.then_ (fun n _ => h.list n)).map (·.2) (fun l => (l.length, l)) (fun _ _ => rfl) (fun a v => by obtain ⟨n, l⟩ := a; exact Prod.ext v.2.1 rfl) (fun _ v => ⟨v.1, rfl, v.2⟩) (fun a v => ⟨by rw [v.2.1]; exact v.1, v.2.2⟩)
def ancR (n : Nat) : Rd K32 := if n = 0 then fun s => .ok (zeroKey, s) else keyR
theorem good_anc (n : Nat) : Good (fun k : K32 => if n = 0 then [] else k.1) (ancR n) (fun k => n = 0 → k = zeroKey) := by
  by_cases hn : n = 0
  · subst hn
    exact { fwd := fun a rest v => by rw [v rfl]; rfl
            bwd := fun s a r e => by
              simp only [ancR, if_true, Except.ok.injEq, Prod.mk.injEq] at e
              exact ⟨fun _ => e.1.symm, by simp [e.2]⟩
            cut := fun a i _ hi => by simp at hi }
  · have h : (fun k : K32 => if n = 0 then [] else k.1) = (fun k : K32 => k.1) := funext fun k => if_neg hn
    rw [h]
    unfold ancR
    rw [if_neg hn]
    exact { fwd := fun a rest _ => good_key.fwd a rest trivial
            bwd := fun s a r e => ⟨fun q => absurd q hn, (good_key.bwd s a r e).2⟩
            cut := fun a i _ hi => good_key.cut a i trivial hi }
/-- nullifiers, the anchor ahead of them -/
def nullB (p : K32 × List K32) : List UInt8 := cmpL p.2.length ++ ((if p.2.length = 0 then [] else p.1.1) ++ p.2.flatMap (·.1))
def nullR : Rd (K32 × List K32) := mapR (·.2) (thenR numR (fun n => thenR (ancR n) (fun _ => listR keyR n)))
theorem good_null : Good nullB nullR (fun p => p.2.length ≤ 40 ∧ (p.2.length = 0 → p.1 = zeroKey)) :=
  (good_num.then_ (fun n _ => (good_anc n).then_ (fun _ _ => good_key.list n))).map (·.2) (fun p => (p.2.length, p)) (fun _ _ => rfl)
    (fun a v => by obtain ⟨n, p⟩ := a; exact Prod.ext v.2.2.1 rfl) (fun _ v => ⟨v.1, v.2, rfl, fun _ _ => trivial⟩) (fun a v => ⟨by rw [v.2.2.1]; exact v.1, by rw [v.2.2.1]; exact v.2.1⟩)
def OkTx (T : TxV) : Prop := T.ins.length ≤ 40 ∧ T.outs.length ≤ 40 ∧ T.nulls.length ≤ 40 ∧ T.notes.length ≤ 40 ∧ (T.nulls.length = 0 → T.anchor = zeroKey)
def txB (T : TxV) : List UInt8 := putL T.exp.1.toNat 4 ++ (manyB ptB T.ins ++ (manyB outB T.outs ++ (nullB (T.anchor, T.nulls) ++ (manyB (·.1) T.notes ++ putL (ofI64 T.bal) 8))))
abbrev TxP := IntV .u32 × List (K32 × IntV .u32) × List (IntV .i64 × K32) × (K32 × List K32) × List K32 × IntV .i64
def toTx (p : TxP) : TxV := ⟨p.1, p.2.1, p.2.2.1, p.2.2.2.1.1, p.2.2.2.1.2, p.2.2.2.2.1, p.2.2.2.2.2⟩
def ofTx (T : TxV) : TxP := (T.exp, T.ins, T.outs, (T.anchor, T.nulls), T.notes, T.bal)
def txR : Rd TxV := mapR toTx (thenR u32R fun _ => thenR (manyR ptR) fun _ => thenR (manyR outR) fun _ => thenR nullR fun _ => thenR (manyR keyR) fun _ => i64R)
theorem good_tx : Good txB txR OkTx := by
  have h := good_u32.then_ fun _ _ => good_pt.many.then_ fun _ _ => good_out.many.then_ fun _ _ => good_null.then_ fun _ _ => good_key.many.then_ fun _ _ => good_i64
  exact h.map (V' := OkTx) toTx ofTx (fun _ _ => rfl) (fun _ _ => rfl)
    (fun T v => ⟨trivial, ⟨v.1, fun _ _ => ⟨trivial, trivial⟩⟩, ⟨v.2.1, fun _ _ => ⟨trivial, trivial⟩⟩, ⟨v.2.2.1, v.2.2.2.2⟩, ⟨v.2.2.2.1, fun _ _ => trivial⟩, trivial⟩)
    (fun p v => ⟨v.2.1.1, v.2.2.1.1, v.2.2.2.1.1, v.2.2.2.2.1.1, v.2.2.2.1.2⟩)
theorem ptB_len (p : K32 × IntV .u32) : (ptB p).length = 36 := by unfold ptB; rw [List.length_append, p.1.2, putL_len]
theorem outB_len (p : IntV .i64 × K32) : (outB p).length = 40 := by unfold outB; rw [List.length_append, p.2.2, putL_len]
theorem flat_len {α : Type} (W : α → List UInt8) (k : Nat) (h : ∀ x, (W x).length = k) : ∀ l : List α, (l.flatMap W).length = k * l.length
  | [] => by simp
  | a :: l => by rw [List.flatMap_cons, List.length_append, h, flat_len W k h l, List.length_cons, Nat.mul_add, Nat.mul_one, Nat.add_comm]
theorem cmpL_small (n : Nat) (h : n ≤ 40) : (cmpL n).length = 1 := by unfold cmpL; rw [if_pos (by omega), putL_len]
theorem txB_len (T : TxV) (h : OkTx T) : (txB T).length = 4 + 1 + 36 * T.ins.length + 1 + 40 * T.outs.length + 1 + 32 * T.nulls.length + 1 + 32 * T.notes.length + 8 + (if 0 < T.nulls.length then 32 else 0) := by
  obtain ⟨h1, h2, h3, h4, _⟩ := h
  unfold txB manyB nullB
  simp only [List.length_append, putL_len, cmpL_small _ h1, cmpL_small _ h2, cmpL_small _ h3, cmpL_small _ h4, flat_len ptB 36 ptB_len, flat_len outB 40 outB_len, flat_len (fun k : K32 => k.1) 32 (fun k => k.2)]
  by_cases h0 : T.nulls.length = 0
  · rw [if_pos h0, if_neg (by omega)]; simp; omega
  · rw [if_neg h0, if_pos (by omega), T.anchor.2]; omega
/-- two transactions have the same bytes if they are the same, and else not -/
theorem txB_inj {T U : TxV} (hT : OkTx T) (hU : OkTx U) (h : txB T = txB U) : T = U := by
  have h1 := good_tx.fwd T [] hT
  rw [h, good_tx.fwd U [] hU] at h1
  injection h1 with h1
  injection h1 with h1
  exact h1.symm
theorem txR_many (b : UInt8) (rest : List UInt8) (h1 : 40 < b.toNat) (h2 : b.toNat < 253) : txR (0 :: 0 :: 0 :: 0 :: b :: rest) = .error 51 := by
  have hg : getR 4 (0 :: 0 :: 0 :: 0 :: b :: rest) = .ok (getN [0, 0, 0, 0], b :: rest) := by
    unfold getR
    rw [if_neg (by simp)]
    rfl
  have hn : numR (b :: rest) = .error 51 := by
    unfold numR
    have hr : readF (b :: rest) = (b.toNat, rest, 0) := by simp [readF, h2]
    rw [hr]
    simp only [if_true]
    rw [if_pos h1]
  simp only [txR, mapR, thenR, u32R, hg, manyR, hn]
/-- what Encode answers -/
def encF (T : TxV) : List UInt8 × Int :=
  if 40 < T.ins.length ∨ 40 < T.outs.length ∨ 40 < T.nulls.length ∨ 40 < T.notes.length then ([], 51) else if T.nulls.length = 0 ∧ T.anchor ≠ zeroKey then ([], 1) else (txB T, 0)
theorem encF_ok (T : TxV) (h : OkTx T) : encF T = (txB T, 0) := by
  obtain ⟨h1, h2, h3, h4, h5⟩ := h
  unfold encF
  rw [if_neg (by omega), if_neg (fun q => q.2 (h5 q.1))]
theorem encF_cases (T : TxV) : (OkTx T ∧ encF T = (txB T, 0)) ∨ encF T = ([], 51) ∨ encF T = ([], 1) := by
  by_cases h : 40 < T.ins.length ∨ 40 < T.outs.length ∨ 40 < T.nulls.length ∨ 40 < T.notes.length
  · exact .inr (.inl (by unfold encF; rw [if_pos h]))
  by_cases h' : T.nulls.length = 0 ∧ T.anchor ≠ zeroKey
  · exact .inr (.inr (by unfold encF; rw [if_neg h, if_pos h']))
  · refine .inl ⟨⟨by omega, by omega, by omega, by omega, fun q => Classical.byContradiction fun e => h' ⟨q, e⟩⟩, by unfold encF; rw [if_neg h, if_neg h']⟩
/-- the transaction of nothing -/
def noTx : TxV := ⟨toU32 0, [], [], zeroKey, [], [], toI64 0⟩
/-- what Read answers -/
def readTx (s : List UInt8) : TxV × List UInt8 × Int := match txR s with
  | .error e => (noTx, [], e)
  | .ok (T, r) => (T, r, 0)
/-- what Decode answers -/
def decTx (s : List UInt8) : TxV × Int := match txR s with
  | .error e => (noTx, e)
  | .ok (T, r) => if r = [] then (T, 0) else (noTx, 50)
theorem readTx_put (T : TxV) (rest : List UInt8) (h : OkTx T) : readTx (txB T ++ rest) = (T, rest, 0) := by unfold readTx; rw [good_tx.fwd T rest h]
theorem decTx_put (T : TxV) (h : OkTx T) : decTx (txB T) = (T, 0) := by
  unfold decTx
  have := good_tx.fwd T [] h
  rw [List.append_nil] at this
  rw [this]
  rfl
theorem decTx_more (T : TxV) (h : OkTx T) (b : UInt8) : decTx (txB T ++ [b]) = (noTx, 50) := by
  unfold decTx
  rw [good_tx.fwd T [b] h]
  rfl
theorem decTx_cut (T : TxV) (h : OkTx T) (i : Nat) (hi : i < (txB T).length) : decTx ((txB T).take i) = (noTx, 30) := by unfold decTx; rw [good_tx.cut T i h hi]
/-- an error of reading is none of 0 -/
theorem getR_err {wd : Nat} {s : List UInt8} {e : Int} (h : getR wd s = .error e) : e = 30 := by
  unfold getR at h
  split at h
  · injection h with h; exact h.symm
  · cases h
theorem decTx_ok (s : List UInt8) (T : TxV) (h : txR s = .ok (T, [])) : OkTx T ∧ txB T = s := by
  obtain ⟨h1, h2⟩ := good_tx.bwd _ _ _ h
  exact ⟨h1, by rw [h2, List.append_nil]⟩
/-- whether all of them is the same -/
def sameF (T U : TxV) : Bool := decide (T.exp = U.exp) && decide (T.ins = U.ins) && decide (T.outs = U.outs) && decide (T.anchor = U.anchor) && decide (T.nulls = U.nulls) && decide (T.notes = U.notes) && decide (T.bal = U.bal)
theorem sameF_iff (T U : TxV) : sameF T U = true ↔ T = U := by
  unfold sameF
  simp only [Bool.and_eq_true, decide_eq_true_iff]
  constructor
  · rintro ⟨⟨⟨⟨⟨⟨h1, h2⟩, h3⟩, h4⟩, h5⟩, h6⟩, h7⟩
    cases T; cases U
    simp only at h1 h2 h3 h4 h5 h6 h7
    subst h1 h2 h3 h4 h5 h6 h7
    rfl
  · rintro rfl
    exact ⟨⟨⟨⟨⟨⟨rfl, rfl⟩, rfl⟩, rfl⟩, rfl⟩, rfl⟩, rfl⟩
theorem txB_same {T U : TxV} (hT : OkTx T) (hU : OkTx U) : decide (txB T = txB U) = sameF T U := by
  rw [Bool.eq_iff_iff, decide_eq_true_iff, sameF_iff]
  exact ⟨txB_inj hT hU, fun h => h ▸ rfl⟩
/-- every error is an error -/
def Errs {α : Type} (R : Rd α) : Prop := ∀ s e, R s = .error e → e = 30 ∨ e = 31 ∨ e = 51
theorem Errs.then_ {α β : Type} {R1 : Rd α} {R2 : α → Rd β} (h1 : Errs R1) (h2 : ∀ a, Errs (R2 a)) : Errs (thenR R1 R2) := by
  intro s e h
  unfold thenR at h
  split at h
  · rename_i e1 q; injection h with h; subst h; exact h1 _ _ q
  · split at h
    · rename_i e1 q; injection h with h; subst h; exact h2 _ _ _ q
    · cases h
theorem Errs.map {α β : Type} {f : α → β} {R : Rd α} (h1 : Errs R) : Errs (mapR f R) := by
  intro s e h
  unfold mapR at h
  split at h
  · rename_i e1 q; injection h with h; subst h; exact h1 _ _ q
  · cases h
theorem Errs.list {α : Type} {R : Rd α} (h : Errs R) : ∀ n, Errs (listR R n)
  | 0 => fun s e q => by simp [listR] at q
  | n + 1 => (Errs.then_ h (fun _ => Errs.list h n)).map
theorem errs_get (wd : Nat) : Errs (getR wd) := fun _ _ h => Or.inl (getR_err h)
theorem errs_key : Errs keyR := fun s e h => by
  unfold keyR at h
  split at h
  · injection h with h; exact Or.inl h.symm
  · cases h
theorem errs_num : Errs numR := fun s e h => by
  unfold numR at h
  rcases readF_cases s with ⟨n, r, h1, _, _⟩ | h1 | h1
  · rw [h1] at h
    simp only [if_true] at h
    split at h
    · injection h with h; exact Or.inr (Or.inr h.symm)
    · cases h
  · rw [h1] at h
    simp at h
    exact Or.inl h.symm
  · rw [h1] at h
    simp at h
    exact Or.inr (Or.inl h.symm)
theorem errs_anc (n : Nat) : Errs (ancR n) := by
  unfold ancR
  split
  · intro s e h; cases h
  · exact errs_key
theorem errs_many {α : Type} {R : Rd α} (h : Errs R) : Errs (manyR R) := (errs_num.then_ (fun n => h.list n)).map
theorem errs_tx : Errs txR :=
  ((errs_get 4).map.then_ fun _ => (errs_many (errs_key.then_ fun _ => (errs_get 4).map)).then_ fun _ => (errs_many ((errs_get 8).map.then_ fun _ => errs_key)).then_ fun _ =>
    (errs_num.then_ fun n => (errs_anc n).then_ fun _ => errs_key.list n).map.then_ fun _ => (errs_many errs_key).then_ fun _ => (errs_get 8).map).map
end Go.Proofs.Ytpoejbfcioijhaa
/- tx: the bytes of a number, an amount, a point, an out, a count. -/
namespace Go.Proofs.Ytpoejbfcioijhaa
open Go.RowKit
theorem number_any (z : IntV .u32) (w : World) :
    Calls Try.prog 35 #[.int .u32 z.1] w fun e w' => e = .returned (.string ⟨(putL z.1.toNat 4).toArray⟩) ∧ Below w.heap.size w w' := by
  have hz := wf_u32.1 z.2
  have hc : IntKind.u64.wrap z.1 = (z.1.toNat : Int) := by rw [IntKind.wrap_u64]; omega
  obtain ⟨n, hn⟩ : ∃ n : Nat, z.1.toNat = n := ⟨_, rfl⟩
  rw [hn] at hc ⊢
  generalize z.1 = y at hc
  clear hz hn
  go_enter Try.func35, Try.ntmps35
  go_wp2_with fail
  refine (cput_any n 4 _).mono ?_
  rintro e w1 ⟨rfl, b1⟩
  rw [show putF n 4 = putL n 4 by unfold putF; rw [if_neg (by omega)]; rfl]
  go_wp2
  go_ret
  exact ⟨rfl, b1⟩
theorem amount_any (z : IntV .i64) (w : World) :
    Calls Try.prog 44 #[.int .i64 z.1] w fun e w' => e = .returned (.string ⟨(putL (ofI64 z) 8).toArray⟩) ∧ Below w.heap.size w w' := by
  have hc : IntKind.u64.wrap z.1 = (ofI64 z : Int) := by rw [IntKind.wrap_u64]; unfold ofI64; omega
  obtain ⟨n, hn⟩ : ∃ n : Nat, ofI64 z = n := ⟨_, rfl⟩
  rw [hn] at hc ⊢
  generalize z.1 = y at hc
  clear hn
  go_enter Try.func44, Try.ntmps44
  go_wp2_with fail
  refine (cput_any n 8 _).mono ?_
  rintro e w1 ⟨rfl, b1⟩
  rw [show putF n 8 = putL n 8 by unfold putF; rw [if_neg (by omega)]; rfl]
  go_wp2
  go_ret
  exact ⟨rfl, b1⟩
theorem tyPt : RowTy Try.prog 23 62 (encKI .u32) 33 := ⟨Try.underlying23, by kernel_rfl, encKI_len _, encKI_one _, Try.isAgg62, by omega⟩
theorem tyOut : RowTy Try.prog 24 64 (encIK .i64) 33 := ⟨Try.underlying24, by kernel_rfl, encIK_len _, encIK_one _, Try.isAgg64, by omega⟩
theorem countPt_any (A : Option Addr) (n c : Nat) (hn : n ≤ 1000000) (w : World) :
    Calls Try.prog 36 #[.slice A n c] w fun e w' => e = .returned (.string ⟨(cmpL n).toArray⟩) ∧ Below w.heap.size w w' := by
  have hc : IntKind.u64.wrap (n : Int) = (n : Int) := by rw [IntKind.wrap_u64]; omega
  go_enter Try.func36, Try.ntmps36
  go_wp2_with fail
  refine (ccompact_any n _).mono ?_
  rintro e w1 ⟨rfl, b1⟩
  go_wp2
  go_ret
  exact ⟨rfl, b1⟩
theorem countOut_any (A : Option Addr) (n c : Nat) (hn : n ≤ 1000000) (w : World) :
    Calls Try.prog 39 #[.slice A n c] w fun e w' => e = .returned (.string ⟨(cmpL n).toArray⟩) ∧ Below w.heap.size w w' := by
  have hc : IntKind.u64.wrap (n : Int) = (n : Int) := by rw [IntKind.wrap_u64]; omega
  go_enter Try.func39, Try.ntmps39
  go_wp2_with fail
  refine (ccompact_any n _).mono ?_
  rintro e w1 ⟨rfl, b1⟩
  go_wp2
  go_ret
  exact ⟨rfl, b1⟩
theorem countKey_any (A : Option Addr) (n c : Nat) (hn : n ≤ 1000000) (w : World) :
    Calls Try.prog 42 #[.slice A n c] w fun e w' => e = .returned (.string ⟨(cmpL n).toArray⟩) ∧ Below w.heap.size w w' := by
  have hc : IntKind.u64.wrap (n : Int) = (n : Int) := by rw [IntKind.wrap_u64]; omega
  go_enter Try.func42, Try.ntmps42
  go_wp2_with fail
  refine (ccompact_any n _).mono ?_
  rintro e w1 ⟨rfl, b1⟩
  go_wp2
  go_ret
  exact ⟨rfl, b1⟩
theorem key_info : (Try.prog.info? 26).map (·.size) = some 32 := by kernel_rfl
theorem bytesK_any (k : K32) (w : World) :
    Calls Try.prog 34 #[.agg (encK k).toArray] w fun e w' => e = .returned (.string ⟨k.1.toArray⟩) ∧ Below w.heap.size w w' := by
  rw [encK_arr]; exact bytes_any k.1 k.2 w
theorem point_any (p : K32 × IntV .u32) (w : World) :
    Calls Try.prog 38 #[.agg (encKI .u32 p).toArray] w fun e w' => e = .returned (.string ⟨(ptB p).toArray⟩) ∧ Below w.heap.size w w' := by
  have hb : RowC (w.alloc (.cells (encKI .u32 p).toArray 62)) w.heap.size 0 (encKI .u32 p) := RowC.of_blk (Blk.new _ _ _)
  have hk : ∀ w', From (w.alloc (.cells (encKI .u32 p).toArray 62)) w' → RowC w' w.heap.size 0 (encK p.1) := fun w' hC => hb.ki_key.below hC.below (by simp)
  have hi : ∀ w', From (w.alloc (.cells (encKI .u32 p).toArray 62)) w' → w'.cell? ⟨w.heap.size, 32, none⟩ = some (.int .u32 p.2.1) := fun w' hC => (hC.below.cell (by simp)).trans hb.ki_int
  have HK := Lib.hid hk
  have HI := Lib.hid hi
  clear hb hk hi
  have hadd : ∀ V, (Op.stringOp .add ⟨p.1.1.toArray⟩ ⟨(putL p.2.1.toNat 4).toArray⟩).run Try.prog V = .ok (.string ⟨(ptB p).toArray⟩) V := fun V => run_string_add_lists V _ _ (by rw [p.1.2]; decide) (by rw [putL_len]; decide)
  go_enter Try.func38, Try.ntmps38
  go_wp2_with fail
  refine wp_region_from (by kernel_rfl) (by kernel_rfl) ?_
  repeat (first
    | ((with_reducible refine at_qload 3 ?_); refine tyKy.wpQuiet_load (by rfl) (.tmp 3) rfl w.heap.size 0 rfl p.1 HK.out ?_; simp only [Act.put, List.setIfInBounds_toArray, List.set_cons_succ, List.set_cons_zero])
    | ((with_reducible refine at_qload 6 ?_); refine wpQuiet_load_one (by rfl) 22 (.tmp 6) rfl ⟨w.heap.size, 32, none⟩ rfl (.int .u32 p.2.1) Try.isAgg22 HI.out ?_; simp only [Act.put, List.setIfInBounds_toArray, List.set_cons_succ, List.set_cons_zero])
    | (go_big_quiet_want; go_big_quiet_op; refine ⟨_, fun _ _ => by with_reducible rfl, ?_⟩; go_big_quiet_on)
    | go_big_quiet_step ((intro hC; first
        | (go_at_call 34; with_reducible exact (bytesK_any p.1 _).mono fun _ _ h => ⟨h.1, hC.call h.2⟩)
        | (go_at_call 35; with_reducible exact (number_any p.2 _).mono fun _ _ h => ⟨h.1, hC.call h.2⟩))))
  refine wpQuiet_nil ?_
  intro w9 hC
  go_wp2_with fail
  go_ret
  exact ⟨rfl, ((Below.refl _ _).alloc (Nat.le_refl _) _).trans (hC.below.mono (by simp))⟩
theorem out_any (p : IntV .i64 × K32) (w : World) :
    Calls Try.prog 41 #[.agg (encIK .i64 p).toArray] w fun e w' => e = .returned (.string ⟨(outB p).toArray⟩) ∧ Below w.heap.size w w' := by
  have hb : RowC (w.alloc (.cells (encIK .i64 p).toArray 64)) w.heap.size 0 (encIK .i64 p) := RowC.of_blk (Blk.new _ _ _)
  have hk : ∀ w', From (w.alloc (.cells (encIK .i64 p).toArray 64)) w' → RowC w' w.heap.size 1 (encK p.2) := fun w' hC => by have := hb.ik_key.below hC.below (by simp); rwa [Nat.zero_add] at this
  have hi : ∀ w', From (w.alloc (.cells (encIK .i64 p).toArray 64)) w' → w'.cell? ⟨w.heap.size, 0, none⟩ = some (.int .i64 p.1.1) := fun w' hC => (hC.below.cell (by simp)).trans hb.ik_int
  have HK := Lib.hid hk
  have HI := Lib.hid hi
  clear hb hk hi
  have hadd : ∀ V, (Op.stringOp .add ⟨(putL (ofI64 p.1) 8).toArray⟩ ⟨p.2.1.toArray⟩).run Try.prog V = .ok (.string ⟨(outB p).toArray⟩) V := fun V => run_string_add_lists V _ _ (by rw [putL_len]; decide) (by rw [p.2.2]; decide)
  go_enter Try.func41, Try.ntmps41
  go_wp2_with fail
  refine wp_region_from (by kernel_rfl) (by kernel_rfl) ?_
  repeat (first
    | ((with_reducible refine at_qload 3 ?_); refine wpQuiet_load_one (by rfl) 2 (.tmp 3) rfl ⟨w.heap.size, 0, none⟩ rfl (.int .i64 p.1.1) Try.isAgg2 HI.out ?_; simp only [Act.put, List.setIfInBounds_toArray, List.set_cons_succ, List.set_cons_zero])
    | ((with_reducible refine at_qload 6 ?_); refine tyKy.wpQuiet_load (by rfl) (.tmp 6) rfl w.heap.size 1 rfl p.2 HK.out ?_; simp only [Act.put, List.setIfInBounds_toArray, List.set_cons_succ, List.set_cons_zero])
    | (go_big_quiet_want; go_big_quiet_op; refine ⟨_, fun _ _ => by with_reducible rfl, ?_⟩; go_big_quiet_on)
    | go_big_quiet_step ((intro hC; first
        | (go_at_call 34; with_reducible exact (bytesK_any p.2 _).mono fun _ _ h => ⟨h.1, hC.call h.2⟩)
        | (go_at_call 44; with_reducible exact (amount_any p.1 _).mono fun _ _ h => ⟨h.1, hC.call h.2⟩))))
  refine wpQuiet_nil ?_
  intro w9 hC
  go_wp2_with fail
  go_ret
  exact ⟨rfl, ((Below.refl _ _).alloc (Nat.le_refl _) _).trans (hC.below.mono (by simp))⟩
end Go.Proofs.Ytpoejbfcioijhaa
/- tx.join at its three types. Written by genJoin.py. -/
namespace Go.Proofs.Ytpoejbfcioijhaa
open Go.RowKit
def keyB (k : K32) : List UInt8 := k.1
theorem keyB_len (k : K32) : (keyB k).length = 32 := k.2
theorem byteCells_app (a b : List UInt8) : Lib.byteCells a ++ Lib.byteCells b = Lib.byteCells (a ++ b) := by unfold Lib.byteCells; rw [List.map_append]
theorem bcells_len (l : List UInt8) : (Lib.byteCells l).length = l.length := by simp [Lib.byteCells]
theorem mkb_size (l : List UInt8) : (ByteArray.mk l.toArray).size = l.length := by simp [ByteArray.size]
theorem len_bound {a b m n : Nat} (h : a ≤ m * n) (h2 : b ≤ 40) (hm : m ≤ 40) (hn : n ≤ 1000) : a + b ≤ 140737488355328 := by have := Nat.mul_le_mul hm hn; omega
theorem flat_take_succ {α : Type} (W : α → List UInt8) (l : List α) (k : Nat) (h : k < l.length) : (l.take k).flatMap W ++ W l[k] = (l.take (k + 1)).flatMap W := by
  rw [List.take_succ_eq_append_getElem h, List.flatMap_append]; simp
theorem flat_take_le {α : Type} (W : α → List UInt8) (m : Nat) (hm : ∀ x, (W x).length = m) (l : List α) (k : Nat) : ((l.take k).flatMap W).length ≤ m * l.length := by
  rw [flat_len W m hm]
  exact Nat.mul_le_mul_left m (by rw [List.length_take]; omega)
theorem own_below {w w' : World} {B e size n : Nat} {v : Value} {xs : List Value} (h : w.ownsRow B e size v n xs) (hb : Below w.heap.size w w') : w'.ownsRow B e size v n xs := by
  refine ⟨h.1, ?_⟩
  rcases h.2 with hn | ⟨g, cap, cur, rfl, hg, hgg, rest⟩
  · exact .inl hn
  · exact .inr ⟨g, cap, cur, rfl, hg, by rw [hb.block g (Array.getElem?_eq_some_iff.1 hgg).1]; exact hgg, rest⟩
theorem bldAt_below {T e : TypeId} {B b : Nat} {p : Value} {bs : List Value} {w w' : World} (h : Lib.BuilderAt T e B b p bs w) (hb : Below w.heap.size w w') : Lib.BuilderAt T e B b p bs w' := by
  obtain ⟨hB, v, hbk, hown, hne⟩ := h
  exact ⟨hB, v, by rw [hb.block b (Array.getElem?_eq_some_iff.1 hbk).1]; exact hbk, own_below hown hb, hne⟩
theorem bld_below {T e : TypeId} {B b : Nat} {bs : List Value} {w w' : World} (h : Lib.IsBuilder T e B b bs w) (hb : Below w.heap.size w w') : Lib.IsBuilder T e B b bs w' :=
  h.elim (fun x => .inl (bldAt_below x hb)) (fun x => .inr (bldAt_below x hb))
theorem bld_fresh (w : World) (T e : TypeId) {W : World} (hW : W = w.alloc (.cells #[.pointer none, .slice none 0 0] T)) : Lib.IsBuilder T e w.heap.size w.heap.size [] W :=
  hW ▸ .inl ⟨Nat.le_refl _, .slice none 0 0, Blk.new w T _, World.ownsRow_nil _ _ _ _, by simp [Value.ownBlock]⟩
set_option maxRecDepth 20000 in
theorem joinPt_any (A : Option Addr) (c : Nat) (l : List (K32 × IntV .u32)) (w : World) (hl : RowIn (encKI .u32) 33 w w.heap.size A c l) (hn : l.length ≤ 1000) :
    Calls Try.prog 37 #[.slice A l.length c, .func (.func 38) #[] #[]] w fun e w' => e = .returned (.string ⟨(l.flatMap ptB).toArray⟩) ∧ Below w.heap.size w w' := by
  have HL := Lib.hid hl
  clear hl
  go_enter Try.func37, Try.ntmps37
  go_wp2_with fail
  go_loopw [10] (fun i wr => ∃ k : Nat, k ≤ l.length ∧ i = .int .i64 k ∧ Lib.IsBuilder 78 5 w.heap.size w.heap.size (Lib.byteCells ((l.take k).flatMap ptB)) wr ∧ Below w.heap.size w wr)
    (fun i _ => l.length - (intOf i).toNat)
  case atStart => exact ⟨0, by omega, rfl, bld_fresh w _ _ rfl, (Below.refl _ _).alloc (Nat.le_refl _) _⟩
  case round =>
    obtain ⟨k, hk, rfl, hg, hb⟩ := hrel
    have HG := Lib.hid hg
    clear hg
    by_cases hlt : k < l.length
    · obtain ⟨g, o, rfl, hg, hc⟩ := (HL.out.below hb).at (encKI_len _) hlt
      have hsz := hb.size
      have HC := Lib.hid hc
      have hm := flat_take_le ptB _ ptB_len l k
      have hx : (ptB l[k]).length ≤ 40 := (show ∀ x, (ptB x).length ≤ 40 from fun x => Nat.le_trans (Nat.le_of_eq (ptB_len x)) (by omega)) _
      have HM := Lib.hid hm
      have HX := Lib.hid hx
      clear hc hm hx
      go_wp2_with (first
        | ((with_reducible refine at_load 12 ?_); refine tyPt.wpList_load rfl (.tmp 12) rfl g (o + k * 33) rfl l[k] HC.out ?_)
        | ((with_reducible refine at_store 7 13 ?_); refine wpList_store_arr rfl 62 (.tmp 7) (.tmp 13) rfl rfl wr.heap.size (encKI .u32 l[k]).toArray rfl rfl 62 _ (Blk.new wr _ _) (tyPt.arrS _) (by rw [tyPt.arr]; rfl) (tyPt.arr1 _) ?_; intro w3 o3 b3; have K3 := Lib.hid (RowC.of_blk b3); have B3 := Lib.hid (o3.below (B := wr.heap.size) (by simp)); have Z3 := B3.out.size; clear b3 o3)
        | ((with_reducible refine at_load 7 ?_); refine tyPt.wpList_load rfl (.tmp 7) rfl wr.heap.size 0 rfl l[k] (by simpa using K3.out) ?_)
        )
      refine (point_any l[k] _).mono ?_
      rintro e w4 ⟨rfl, b4⟩
      have hz3 : wr.heap.size ≤ w3.heap.size := by simp at Z3; omega
      have B4 : Below wr.heap.size wr w4 := ((Below.refl _ _).alloc (Nat.le_refl _) _).trans (B3.out.trans (b4.mono hz3))
      have G4 := Lib.hid (bld_below HG.out B4)
      have Z4 := B4.size
      have B4h := Lib.hid (hb.trans (B4.mono hsz))
      clear b4 B3 Z3 hz3 B4 HG K3
      go_wp2_with fail
      refine (bld_writeString w.heap.size w.heap.size _ ⟨(ptB l[k]).toArray⟩ _ G4.out (by rw [bcells_len, mkb_size]; exact len_bound HM.out HX.out (by omega) hn) (by omega)).mono ?_
      rintro e w5 ⟨rfl, g5, b5⟩
      rw [show Lib.byteCells ((l.take k).flatMap ptB) ++ Lib.strCells ⟨(ptB l[k]).toArray⟩ = Lib.byteCells ((l.take (k + 1)).flatMap ptB) by rw [← flat_take_succ _ _ _ hlt, ← byteCells_app]; simp [Lib.strCells_eq]] at g5
      have G5 := Lib.hid g5
      clear g5 HM HX HC
      have B5 := Lib.hid (B4h.out.trans b5)
      clear b5 G4
      go_wp2
      go_roundw
      case rel => exact ⟨k + 1, by omega, by go_num, .inr G5.out, B5.out⟩
      case measure => simp [intOf]; omega
    · have hkl : k = l.length := by omega
      have HG2 : Hid (Lib.IsBuilder 78 5 w.heap.size w.heap.size (Lib.byteCells (l.flatMap ptB)) wr) := by
        have := HG.out
        rw [hkl, List.take_length] at this; exact this
      clear HG hkl
      go_wp2_with fail
      refine (bld_string w.heap.size w.heap.size _ _ HG2.out hb.size).mono ?_
      rintro e w5 ⟨rfl, b5⟩
      have B5 := hb.trans b5
      go_wp2
      go_ret
      exact ⟨rfl, B5⟩
set_option maxRecDepth 20000 in
theorem joinOut_any (A : Option Addr) (c : Nat) (l : List (IntV .i64 × K32)) (w : World) (hl : RowIn (encIK .i64) 33 w w.heap.size A c l) (hn : l.length ≤ 1000) :
    Calls Try.prog 40 #[.slice A l.length c, .func (.func 41) #[] #[]] w fun e w' => e = .returned (.string ⟨(l.flatMap outB).toArray⟩) ∧ Below w.heap.size w w' := by
  have HL := Lib.hid hl
  clear hl
  go_enter Try.func40, Try.ntmps40
  go_wp2_with fail
  go_loopw [10] (fun i wr => ∃ k : Nat, k ≤ l.length ∧ i = .int .i64 k ∧ Lib.IsBuilder 78 5 w.heap.size w.heap.size (Lib.byteCells ((l.take k).flatMap outB)) wr ∧ Below w.heap.size w wr)
    (fun i _ => l.length - (intOf i).toNat)
  case atStart => exact ⟨0, by omega, rfl, bld_fresh w _ _ rfl, (Below.refl _ _).alloc (Nat.le_refl _) _⟩
  case round =>
    obtain ⟨k, hk, rfl, hg, hb⟩ := hrel
    have HG := Lib.hid hg
    clear hg
    by_cases hlt : k < l.length
    · obtain ⟨g, o, rfl, hg, hc⟩ := (HL.out.below hb).at (encIK_len _) hlt
      have hsz := hb.size
      have HC := Lib.hid hc
      have hm := flat_take_le outB _ outB_len l k
      have hx : (outB l[k]).length ≤ 40 := (show ∀ x, (outB x).length ≤ 40 from fun x => Nat.le_trans (Nat.le_of_eq (outB_len x)) (by omega)) _
      have HM := Lib.hid hm
      have HX := Lib.hid hx
      clear hc hm hx
      go_wp2_with (first
        | ((with_reducible refine at_load 12 ?_); refine tyOut.wpList_load rfl (.tmp 12) rfl g (o + k * 33) rfl l[k] HC.out ?_)
        | ((with_reducible refine at_store 7 13 ?_); refine wpList_store_arr rfl 64 (.tmp 7) (.tmp 13) rfl rfl wr.heap.size (encIK .i64 l[k]).toArray rfl rfl 64 _ (Blk.new wr _ _) (tyOut.arrS _) (by rw [tyOut.arr]; rfl) (tyOut.arr1 _) ?_; intro w3 o3 b3; have K3 := Lib.hid (RowC.of_blk b3); have B3 := Lib.hid (o3.below (B := wr.heap.size) (by simp)); have Z3 := B3.out.size; clear b3 o3)
        | ((with_reducible refine at_load 7 ?_); refine tyOut.wpList_load rfl (.tmp 7) rfl wr.heap.size 0 rfl l[k] (by simpa using K3.out) ?_)
        )
      refine (out_any l[k] _).mono ?_
      rintro e w4 ⟨rfl, b4⟩
      have hz3 : wr.heap.size ≤ w3.heap.size := by simp at Z3; omega
      have B4 : Below wr.heap.size wr w4 := ((Below.refl _ _).alloc (Nat.le_refl _) _).trans (B3.out.trans (b4.mono hz3))
      have G4 := Lib.hid (bld_below HG.out B4)
      have Z4 := B4.size
      have B4h := Lib.hid (hb.trans (B4.mono hsz))
      clear b4 B3 Z3 hz3 B4 HG K3
      go_wp2_with fail
      refine (bld_writeString w.heap.size w.heap.size _ ⟨(outB l[k]).toArray⟩ _ G4.out (by rw [bcells_len, mkb_size]; exact len_bound HM.out HX.out (by omega) hn) (by omega)).mono ?_
      rintro e w5 ⟨rfl, g5, b5⟩
      rw [show Lib.byteCells ((l.take k).flatMap outB) ++ Lib.strCells ⟨(outB l[k]).toArray⟩ = Lib.byteCells ((l.take (k + 1)).flatMap outB) by rw [← flat_take_succ _ _ _ hlt, ← byteCells_app]; simp [Lib.strCells_eq]] at g5
      have G5 := Lib.hid g5
      clear g5 HM HX HC
      have B5 := Lib.hid (B4h.out.trans b5)
      clear b5 G4
      go_wp2
      go_roundw
      case rel => exact ⟨k + 1, by omega, by go_num, .inr G5.out, B5.out⟩
      case measure => simp [intOf]; omega
    · have hkl : k = l.length := by omega
      have HG2 : Hid (Lib.IsBuilder 78 5 w.heap.size w.heap.size (Lib.byteCells (l.flatMap outB)) wr) := by
        have := HG.out
        rw [hkl, List.take_length] at this; exact this
      clear HG hkl
      go_wp2_with fail
      refine (bld_string w.heap.size w.heap.size _ _ HG2.out hb.size).mono ?_
      rintro e w5 ⟨rfl, b5⟩
      have B5 := hb.trans b5
      go_wp2
      go_ret
      exact ⟨rfl, B5⟩
set_option maxRecDepth 20000 in
theorem joinKey_any (A : Option Addr) (c : Nat) (l : List (K32)) (w : World) (hl : RowIn (encK) 32 w w.heap.size A c l) (hn : l.length ≤ 1000) :
    Calls Try.prog 43 #[.slice A l.length c, .func (.func 34) #[] #[]] w fun e w' => e = .returned (.string ⟨(l.flatMap keyB).toArray⟩) ∧ Below w.heap.size w w' := by
  have HL := Lib.hid hl
  clear hl
  go_enter Try.func43, Try.ntmps43
  go_wp2_with fail
  go_loopw [10] (fun i wr => ∃ k : Nat, k ≤ l.length ∧ i = .int .i64 k ∧ Lib.IsBuilder 78 5 w.heap.size w.heap.size (Lib.byteCells ((l.take k).flatMap keyB)) wr ∧ Below w.heap.size w wr)
    (fun i _ => l.length - (intOf i).toNat)
  case atStart => exact ⟨0, by omega, rfl, bld_fresh w _ _ rfl, (Below.refl _ _).alloc (Nat.le_refl _) _⟩
  case round =>
    obtain ⟨k, hk, rfl, hg, hb⟩ := hrel
    have HG := Lib.hid hg
    clear hg
    by_cases hlt : k < l.length
    · obtain ⟨g, o, rfl, hg, hc⟩ := (HL.out.below hb).at (encK_len) hlt
      have hsz := hb.size
      have HC := Lib.hid hc
      have hm := flat_take_le keyB _ keyB_len l k
      have hx : (keyB l[k]).length ≤ 40 := (show ∀ x, (keyB x).length ≤ 40 from fun x => Nat.le_trans (Nat.le_of_eq (keyB_len x)) (by omega)) _
      have HM := Lib.hid hm
      have HX := Lib.hid hx
      clear hc hm hx
      go_wp2_with (first
        | ((with_reducible refine at_load 12 ?_); refine tyKy.wpList_load rfl (.tmp 12) rfl g (o + k * 32) rfl l[k] HC.out ?_)
        | ((with_reducible refine at_store 7 13 ?_); refine wpList_store_arr rfl 26 (.tmp 7) (.tmp 13) rfl rfl wr.heap.size (encK l[k]).toArray rfl rfl 26 _ (Blk.new wr _ _) (tyKy.arrS _) (by rw [tyKy.arr]; rfl) (tyKy.arr1 _) ?_; intro w3 o3 b3; have K3 := Lib.hid (RowC.of_blk b3); have B3 := Lib.hid (o3.below (B := wr.heap.size) (by simp)); have Z3 := B3.out.size; clear b3 o3)
        | ((with_reducible refine at_load 7 ?_); refine tyKy.wpList_load rfl (.tmp 7) rfl wr.heap.size 0 rfl l[k] (by simpa using K3.out) ?_)
        )
      refine (bytesK_any l[k] _).mono ?_
      rintro e w4 ⟨rfl, b4⟩
      have hz3 : wr.heap.size ≤ w3.heap.size := by simp at Z3; omega
      have B4 : Below wr.heap.size wr w4 := ((Below.refl _ _).alloc (Nat.le_refl _) _).trans (B3.out.trans (b4.mono hz3))
      have G4 := Lib.hid (bld_below HG.out B4)
      have Z4 := B4.size
      have B4h := Lib.hid (hb.trans (B4.mono hsz))
      clear b4 B3 Z3 hz3 B4 HG K3
      go_wp2_with fail
      refine (bld_writeString w.heap.size w.heap.size _ ⟨(keyB l[k]).toArray⟩ _ G4.out (by rw [bcells_len, mkb_size]; exact len_bound HM.out HX.out (by omega) hn) (by omega)).mono ?_
      rintro e w5 ⟨rfl, g5, b5⟩
      rw [show Lib.byteCells ((l.take k).flatMap keyB) ++ Lib.strCells ⟨(keyB l[k]).toArray⟩ = Lib.byteCells ((l.take (k + 1)).flatMap keyB) by rw [← flat_take_succ _ _ _ hlt, ← byteCells_app]; simp [Lib.strCells_eq]] at g5
      have G5 := Lib.hid g5
      clear g5 HM HX HC
      have B5 := Lib.hid (B4h.out.trans b5)
      clear b5 G4
      go_wp2
      go_roundw
      case rel => exact ⟨k + 1, by omega, by go_num, .inr G5.out, B5.out⟩
      case measure => simp [intOf]; omega
    · have hkl : k = l.length := by omega
      have HG2 : Hid (Lib.IsBuilder 78 5 w.heap.size w.heap.size (Lib.byteCells (l.flatMap keyB)) wr) := by
        have := HG.out
        rw [hkl, List.take_length] at this; exact this
      clear HG hkl
      go_wp2_with fail
      refine (bld_string w.heap.size w.heap.size _ _ HG2.out hb.size).mono ?_
      rintro e w5 ⟨rfl, b5⟩
      have B5 := hb.trans b5
      go_wp2
      go_ret
      exact ⟨rfl, B5⟩
end Go.Proofs.Ytpoejbfcioijhaa
/- tx.Encode. Written by genE.py. -/
namespace Go.Proofs.Ytpoejbfcioijhaa
open Go.RowKit
def encV (r : List UInt8 × Int) : Value := .tuple #[.string ⟨r.1.toArray⟩, .int .i64 r.2]
theorem run_max4 {P : Program} (ts : Array TypeId) (t : TypeId) (a b c d : Nat) (w : World) :
    (Builtin.max_ ts t #[.int .i64 a, .int .i64 b, .int .i64 c, .int .i64 d]).run P w = .ok (.int .i64 ((max a (max b (max c d)) : Nat) : Int)) w := by
  have h : ∀ x y : Nat, (if x < y then (y : Int) else (x : Int)) = ((max x y : Nat) : Int) := fun x y => by split <;> omega
  simp [Builtin.max_, Builtin.max2]
  simp only [h, Int.ofNat_lt]
  omega
theorem putL_one (n w : Nat) : (putL n w).length ≤ 100000 ↔ w ≤ 100000 := by rw [putL_len]
theorem cmpL_le (n : Nat) : (cmpL n).length ≤ 9 := by rw [cmpL_len]; unfold wdN; split <;> (try split) <;> (try split) <;> omega
theorem encF_arg (T : TxV) (hx : T.ins.length ≤ 40 ∧ T.outs.length ≤ 40 ∧ T.nulls.length ≤ 40 ∧ T.notes.length ≤ 40) (h0 : T.nulls.length = 0) (ha : T.anchor ≠ zeroKey) : encF T = ([], 1) := by
  unfold encF
  rw [if_neg (by omega), if_pos ⟨h0, ha⟩]
theorem encF_fit (T : TxV) (hx : T.ins.length ≤ 40 ∧ T.outs.length ≤ 40 ∧ T.nulls.length ≤ 40 ∧ T.notes.length ≤ 40) (ha : T.nulls.length = 0 → T.anchor = zeroKey) : encF T = (txB T, 0) := encF_ok T ⟨hx.1, hx.2.1, hx.2.2.1, hx.2.2.2, ha⟩
section
variable {T : TxV} {Ai Ao An At : Option Addr} {ci co cn ct : Nat}
set_option maxRecDepth 20000 in
theorem enc_many (w : World) (hx : 40 < T.ins.length ∨ 40 < T.outs.length ∨ 40 < T.nulls.length ∨ 40 < T.notes.length) :
    Calls Try.prog 26 #[.agg (txCells T Ai ci Ao co An cn At ct).toArray] w fun e w' => e = .returned (encV (encF T)) ∧ Below w.heap.size w w' := by
  rw [show encF T = ([], 51) by unfold encF; rw [if_pos hx]]
  have hb : RowC (w.alloc (.cells (txCells T Ai ci Ao co An cn At ct).toArray 29)) w.heap.size 0 (txCells T Ai ci Ao co An cn At ct) := RowC.of_blk (Blk.new _ _ _)
  have c1 := tx_ins hb
  have c2 := tx_outs hb
  have c4 := tx_nulls hb
  have c5 := tx_notes hb
  clear hb
  simp only [Nat.zero_add] at c1 c2 c4 c5
  obtain ⟨m, hm⟩ : ∃ m : Nat, max T.ins.length (max T.outs.length (max T.nulls.length T.notes.length)) = m := ⟨_, rfl⟩
  have hmax : ∀ W ts t, (Builtin.max_ ts t #[.int .i64 T.ins.length, .int .i64 T.outs.length, .int .i64 T.nulls.length, .int .i64 T.notes.length]).run Try.prog W = .ok (.int .i64 (m : Int)) W := fun W ts t => hm ▸ run_max4 ts t _ _ _ _ W
  have hd : decide ((40 : Int) < m) = true := by simp; omega
  clear hm hx
  go_enter Try.func26, Try.ntmps26
  go_wp2
  go_ret2
  exact ⟨rfl, (Below.refl _ _).alloc (Nat.le_refl _) _⟩
set_option maxRecDepth 20000 in
theorem enc_arg (w : World) (h : TxIn w w.heap.size T Ai ci Ao co An cn At ct) (hx : T.ins.length ≤ 40 ∧ T.outs.length ≤ 40 ∧ T.nulls.length ≤ 40 ∧ T.notes.length ≤ 40) (h0 : T.nulls.length = 0) (ha : T.anchor ≠ zeroKey) :
    Calls Try.prog 26 #[.agg (txCells T Ai ci Ao co An cn At ct).toArray] w fun e w' => e = .returned (encV (encF T)) ∧ Below w.heap.size w w' := by
  rw [encF_arg T hx h0 ha]
  obtain ⟨r, hr⟩ : ∃ r, decide (T.anchor = zeroKey) = r := ⟨_, rfl⟩
  obtain rfl : r = false := by rw [← hr]; simpa using ha
  have HR := Lib.hid hr
  have hd0 : decide (0 < T.nulls.length) = false := by rw [h0]; rfl
  clear hr ha h0
  have hb : RowC (w.alloc (.cells (txCells T Ai ci Ao co An cn At ct).toArray 29)) w.heap.size 0 (txCells T Ai ci Ao co An cn At ct) := RowC.of_blk (Blk.new _ _ _)
  have c1 := tx_ins hb
  have c2 := tx_outs hb
  have c4 := tx_nulls hb
  have c5 := tx_notes hb
  have HK := Lib.hid (tx_anchor hb)
  have HB := Lib.hid hb
  clear hb
  simp only [Nat.zero_add] at c1 c2 c4 c5
  have HI := Lib.hid hx.1
  have HO := Lib.hid hx.2.1
  have HN := Lib.hid hx.2.2.1
  have HT := Lib.hid hx.2.2.2
  have LI := Lib.hid (show T.ins.length ≤ 1000000 by omega)
  have LO := Lib.hid (show T.outs.length ≤ 1000000 by omega)
  have LN := Lib.hid (show T.nulls.length ≤ 1000000 by omega)
  have LT := Lib.hid (show T.notes.length ≤ 1000000 by omega)
  have HH := Lib.hid h
  obtain ⟨m, hm⟩ : ∃ m : Nat, max T.ins.length (max T.outs.length (max T.nulls.length T.notes.length)) = m := ⟨_, rfl⟩
  have hmax : ∀ W ts t, (Builtin.max_ ts t #[.int .i64 T.ins.length, .int .i64 T.outs.length, .int .i64 T.nulls.length, .int .i64 T.notes.length]).run Try.prog W = .ok (.int .i64 (m : Int)) W := fun W ts t => hm ▸ run_max4 ts t _ _ _ _ W
  have hd : decide ((40 : Int) < m) = false := by simp; omega
  clear hm hx h
  clear HB HI HO HN HT LI LO LN LT HH
  obtain ⟨r, rfl⟩ : ∃ r, r = false := ⟨_, rfl⟩
  go_enter Try.func26, Try.ntmps26
  go_wp2_with (first
    | ((with_reducible refine at_load 26 ?_); refine tyKy.wpList_load rfl (.tmp 26) rfl w.heap.size 3 rfl T.anchor (by simpa using HK.out) ?_)
    | ((with_reducible refine at_neqlg 27 28 ?_); refine wpList_neq_rowg (by rfl) 26 26 (.tmp 27) (.tmp 28) rfl (encK T.anchor).toArray (encK zeroKey).toArray rfl (congrArg Value.agg lit32k) (by kernel_rfl) false (fun V => by rw [eqKy_run, HR.out]) ?_; simp only [Act.put, List.setIfInBounds_toArray, List.set_cons_succ, List.set_cons_zero, Bool.not_false]))
  go_ret2
  exact ⟨rfl, (Below.refl _ _).alloc (Nat.le_refl _) _⟩
set_option maxRecDepth 20000 in
set_option maxHeartbeats 2000000 in
theorem enc_none (w : World) (h : TxIn w w.heap.size T Ai ci Ao co An cn At ct) (hx : T.ins.length ≤ 40 ∧ T.outs.length ≤ 40 ∧ T.nulls.length ≤ 40 ∧ T.notes.length ≤ 40) (h0 : T.nulls.length = 0) (ha : T.anchor = zeroKey) :
    Calls Try.prog 26 #[.agg (txCells T Ai ci Ao co An cn At ct).toArray] w fun e w' => e = .returned (encV (encF T)) ∧ Below w.heap.size w w' := by
  rw [encF_fit T hx (fun _ => ha)]
  have hr : decide (T.anchor = zeroKey) = true := by simpa using ha
  have HR := Lib.hid hr
  have hd0 : decide (0 < T.nulls.length) = false := by rw [h0]; rfl
  have E0 : txB T = ((putL T.exp.1.toNat 4) ++ ((cmpL T.ins.length) ++ ((T.ins.flatMap ptB) ++ ((cmpL T.outs.length) ++ ((T.outs.flatMap outB) ++ ((cmpL T.nulls.length) ++ ((T.nulls.flatMap keyB) ++ ((cmpL T.notes.length) ++ ((T.notes.flatMap keyB) ++ (putL (ofI64 T.bal) 8)))))))))) := by
    have hk : ∀ l : List K32, l.flatMap (fun k => k.1) = l.flatMap keyB := fun _ => rfl
    unfold txB manyB nullB
    simp only [hk, h0, if_true, List.append_assoc, List.nil_append]
  clear hr ha
  have l0 : (putL T.exp.1.toNat 4).length ≤ 2000 := by rw [putL_len]; omega
  have b1 : (cmpL T.ins.length).length ≤ 2000 := Nat.le_trans (cmpL_le _) (by omega)
  have hadd1 : ∀ V, (Op.stringOp .add ⟨((putL T.exp.1.toNat 4)).toArray⟩ ⟨(cmpL T.ins.length).toArray⟩).run Try.prog V = .ok (.string ⟨(((putL T.exp.1.toNat 4) ++ (cmpL T.ins.length))).toArray⟩) V := fun V => run_string_add_lists V _ _ (by omega) (by omega)
  have l1 : (((putL T.exp.1.toNat 4) ++ (cmpL T.ins.length))).length ≤ 4000 := by
    have := l0
    simp only [List.length_append] at this ⊢
    omega
  have b2 : (T.ins.flatMap ptB).length ≤ 2000 := by rw [flat_len ptB 36 ptB_len]; omega
  have hadd2 : ∀ V, (Op.stringOp .add ⟨(((putL T.exp.1.toNat 4) ++ (cmpL T.ins.length))).toArray⟩ ⟨(T.ins.flatMap ptB).toArray⟩).run Try.prog V = .ok (.string ⟨(((putL T.exp.1.toNat 4) ++ ((cmpL T.ins.length) ++ (T.ins.flatMap ptB)))).toArray⟩) V := fun V => (run_string_add_lists V _ _ (by omega) (by omega)).trans (by simp only [List.append_assoc])
  have l2 : (((putL T.exp.1.toNat 4) ++ ((cmpL T.ins.length) ++ (T.ins.flatMap ptB)))).length ≤ 6000 := by
    have := l1
    simp only [List.length_append] at this ⊢
    omega
  have b3 : (cmpL T.outs.length).length ≤ 2000 := Nat.le_trans (cmpL_le _) (by omega)
  have hadd3 : ∀ V, (Op.stringOp .add ⟨(((putL T.exp.1.toNat 4) ++ ((cmpL T.ins.length) ++ (T.ins.flatMap ptB)))).toArray⟩ ⟨(cmpL T.outs.length).toArray⟩).run Try.prog V = .ok (.string ⟨(((putL T.exp.1.toNat 4) ++ ((cmpL T.ins.length) ++ ((T.ins.flatMap ptB) ++ (cmpL T.outs.length))))).toArray⟩) V := fun V => (run_string_add_lists V _ _ (by omega) (by omega)).trans (by simp only [List.append_assoc])
  have l3 : (((putL T.exp.1.toNat 4) ++ ((cmpL T.ins.length) ++ ((T.ins.flatMap ptB) ++ (cmpL T.outs.length))))).length ≤ 8000 := by
    have := l2
    simp only [List.length_append] at this ⊢
    omega
  have b4 : (T.outs.flatMap outB).length ≤ 2000 := by rw [flat_len outB 40 outB_len]; omega
  have hadd4 : ∀ V, (Op.stringOp .add ⟨(((putL T.exp.1.toNat 4) ++ ((cmpL T.ins.length) ++ ((T.ins.flatMap ptB) ++ (cmpL T.outs.length))))).toArray⟩ ⟨(T.outs.flatMap outB).toArray⟩).run Try.prog V = .ok (.string ⟨(((putL T.exp.1.toNat 4) ++ ((cmpL T.ins.length) ++ ((T.ins.flatMap ptB) ++ ((cmpL T.outs.length) ++ (T.outs.flatMap outB)))))).toArray⟩) V := fun V => (run_string_add_lists V _ _ (by omega) (by omega)).trans (by simp only [List.append_assoc])
  have l4 : (((putL T.exp.1.toNat 4) ++ ((cmpL T.ins.length) ++ ((T.ins.flatMap ptB) ++ ((cmpL T.outs.length) ++ (T.outs.flatMap outB)))))).length ≤ 10000 := by
    have := l3
    simp only [List.length_append] at this ⊢
    omega
  have b5 : (cmpL T.nulls.length).length ≤ 2000 := Nat.le_trans (cmpL_le _) (by omega)
  have hadd5 : ∀ V, (Op.stringOp .add ⟨(((putL T.exp.1.toNat 4) ++ ((cmpL T.ins.length) ++ ((T.ins.flatMap ptB) ++ ((cmpL T.outs.length) ++ (T.outs.flatMap outB)))))).toArray⟩ ⟨(cmpL T.nulls.length).toArray⟩).run Try.prog V = .ok (.string ⟨(((putL T.exp.1.toNat 4) ++ ((cmpL T.ins.length) ++ ((T.ins.flatMap ptB) ++ ((cmpL T.outs.length) ++ ((T.outs.flatMap outB) ++ (cmpL T.nulls.length))))))).toArray⟩) V := fun V => (run_string_add_lists V _ _ (by omega) (by omega)).trans (by simp only [List.append_assoc])
  have l5 : (((putL T.exp.1.toNat 4) ++ ((cmpL T.ins.length) ++ ((T.ins.flatMap ptB) ++ ((cmpL T.outs.length) ++ ((T.outs.flatMap outB) ++ (cmpL T.nulls.length))))))).length ≤ 12000 := by
    have := l4
    simp only [List.length_append] at this ⊢
    omega
  have hadd6 : ∀ V, (Op.stringOp .add ⟨(((putL T.exp.1.toNat 4) ++ ((cmpL T.ins.length) ++ ((T.ins.flatMap ptB) ++ ((cmpL T.outs.length) ++ ((T.outs.flatMap outB) ++ (cmpL T.nulls.length))))))).toArray⟩ ⟨#[]⟩).run Try.prog V = .ok (.string ⟨(((putL T.exp.1.toNat 4) ++ ((cmpL T.ins.length) ++ ((T.ins.flatMap ptB) ++ ((cmpL T.outs.length) ++ ((T.outs.flatMap outB) ++ (cmpL T.nulls.length))))))).toArray⟩) V := fun V => (run_string_add_lists V _ [] (by omega) (by simp)).trans (by simp only [List.append_nil])
  have l6 := l5
  have b6 := l5
  have b7 : (T.nulls.flatMap keyB).length ≤ 2000 := by rw [flat_len keyB 32 keyB_len]; omega
  have hadd7 : ∀ V, (Op.stringOp .add ⟨(((putL T.exp.1.toNat 4) ++ ((cmpL T.ins.length) ++ ((T.ins.flatMap ptB) ++ ((cmpL T.outs.length) ++ ((T.outs.flatMap outB) ++ (cmpL T.nulls.length))))))).toArray⟩ ⟨(T.nulls.flatMap keyB).toArray⟩).run Try.prog V = .ok (.string ⟨(((putL T.exp.1.toNat 4) ++ ((cmpL T.ins.length) ++ ((T.ins.flatMap ptB) ++ ((cmpL T.outs.length) ++ ((T.outs.flatMap outB) ++ ((cmpL T.nulls.length) ++ (T.nulls.flatMap keyB)))))))).toArray⟩) V := fun V => (run_string_add_lists V _ _ (by omega) (by omega)).trans (by simp only [List.append_assoc])
  have l7 : (((putL T.exp.1.toNat 4) ++ ((cmpL T.ins.length) ++ ((T.ins.flatMap ptB) ++ ((cmpL T.outs.length) ++ ((T.outs.flatMap outB) ++ ((cmpL T.nulls.length) ++ (T.nulls.flatMap keyB)))))))).length ≤ 14000 := by
    have := l6
    simp only [List.length_append] at this ⊢
    omega
  have b8 : (cmpL T.notes.length).length ≤ 2000 := Nat.le_trans (cmpL_le _) (by omega)
  have hadd8 : ∀ V, (Op.stringOp .add ⟨(((putL T.exp.1.toNat 4) ++ ((cmpL T.ins.length) ++ ((T.ins.flatMap ptB) ++ ((cmpL T.outs.length) ++ ((T.outs.flatMap outB) ++ ((cmpL T.nulls.length) ++ (T.nulls.flatMap keyB)))))))).toArray⟩ ⟨(cmpL T.notes.length).toArray⟩).run Try.prog V = .ok (.string ⟨(((putL T.exp.1.toNat 4) ++ ((cmpL T.ins.length) ++ ((T.ins.flatMap ptB) ++ ((cmpL T.outs.length) ++ ((T.outs.flatMap outB) ++ ((cmpL T.nulls.length) ++ ((T.nulls.flatMap keyB) ++ (cmpL T.notes.length))))))))).toArray⟩) V := fun V => (run_string_add_lists V _ _ (by omega) (by omega)).trans (by simp only [List.append_assoc])
  have l8 : (((putL T.exp.1.toNat 4) ++ ((cmpL T.ins.length) ++ ((T.ins.flatMap ptB) ++ ((cmpL T.outs.length) ++ ((T.outs.flatMap outB) ++ ((cmpL T.nulls.length) ++ ((T.nulls.flatMap keyB) ++ (cmpL T.notes.length))))))))).length ≤ 16000 := by
    have := l7
    simp only [List.length_append] at this ⊢
    omega
  have b9 : (T.notes.flatMap keyB).length ≤ 2000 := by rw [flat_len keyB 32 keyB_len]; omega
  have hadd9 : ∀ V, (Op.stringOp .add ⟨(((putL T.exp.1.toNat 4) ++ ((cmpL T.ins.length) ++ ((T.ins.flatMap ptB) ++ ((cmpL T.outs.length) ++ ((T.outs.flatMap outB) ++ ((cmpL T.nulls.length) ++ ((T.nulls.flatMap keyB) ++ (cmpL T.notes.length))))))))).toArray⟩ ⟨(T.notes.flatMap keyB).toArray⟩).run Try.prog V = .ok (.string ⟨(((putL T.exp.1.toNat 4) ++ ((cmpL T.ins.length) ++ ((T.ins.flatMap ptB) ++ ((cmpL T.outs.length) ++ ((T.outs.flatMap outB) ++ ((cmpL T.nulls.length) ++ ((T.nulls.flatMap keyB) ++ ((cmpL T.notes.length) ++ (T.notes.flatMap keyB)))))))))).toArray⟩) V := fun V => (run_string_add_lists V _ _ (by omega) (by omega)).trans (by simp only [List.append_assoc])
  have l9 : (((putL T.exp.1.toNat 4) ++ ((cmpL T.ins.length) ++ ((T.ins.flatMap ptB) ++ ((cmpL T.outs.length) ++ ((T.outs.flatMap outB) ++ ((cmpL T.nulls.length) ++ ((T.nulls.flatMap keyB) ++ ((cmpL T.notes.length) ++ (T.notes.flatMap keyB)))))))))).length ≤ 18000 := by
    have := l8
    simp only [List.length_append] at this ⊢
    omega
  have b10 : (putL (ofI64 T.bal) 8).length ≤ 2000 := by rw [putL_len]; omega
  have hadd10 : ∀ V, (Op.stringOp .add ⟨(((putL T.exp.1.toNat 4) ++ ((cmpL T.ins.length) ++ ((T.ins.flatMap ptB) ++ ((cmpL T.outs.length) ++ ((T.outs.flatMap outB) ++ ((cmpL T.nulls.length) ++ ((T.nulls.flatMap keyB) ++ ((cmpL T.notes.length) ++ (T.notes.flatMap keyB)))))))))).toArray⟩ ⟨(putL (ofI64 T.bal) 8).toArray⟩).run Try.prog V = .ok (.string ⟨(((putL T.exp.1.toNat 4) ++ ((cmpL T.ins.length) ++ ((T.ins.flatMap ptB) ++ ((cmpL T.outs.length) ++ ((T.outs.flatMap outB) ++ ((cmpL T.nulls.length) ++ ((T.nulls.flatMap keyB) ++ ((cmpL T.notes.length) ++ ((T.notes.flatMap keyB) ++ (putL (ofI64 T.bal) 8))))))))))).toArray⟩) V := fun V => (run_string_add_lists V _ _ (by omega) (by omega)).trans (by simp only [List.append_assoc])
  have l10 : (((putL T.exp.1.toNat 4) ++ ((cmpL T.ins.length) ++ ((T.ins.flatMap ptB) ++ ((cmpL T.outs.length) ++ ((T.outs.flatMap outB) ++ ((cmpL T.nulls.length) ++ ((T.nulls.flatMap keyB) ++ ((cmpL T.notes.length) ++ ((T.notes.flatMap keyB) ++ (putL (ofI64 T.bal) 8))))))))))).length ≤ 20000 := by
    have := l9
    simp only [List.length_append] at this ⊢
    omega
  clear l0 l1 l2 l3 l4 l5 l6 l7 l8 l9 l10 b1 b2 b3 b4 b5 b6 b7 b8 b9 b10
  have HZ := Lib.hid h0
  clear h0
  have HE := Lib.hid E0
  clear E0
  have hb : RowC (w.alloc (.cells (txCells T Ai ci Ao co An cn At ct).toArray 29)) w.heap.size 0 (txCells T Ai ci Ao co An cn At ct) := RowC.of_blk (Blk.new _ _ _)
  have c1 := tx_ins hb
  have c2 := tx_outs hb
  have c4 := tx_nulls hb
  have c5 := tx_notes hb
  have HK := Lib.hid (tx_anchor hb)
  have HB := Lib.hid hb
  clear hb
  simp only [Nat.zero_add] at c1 c2 c4 c5
  have HI := Lib.hid hx.1
  have HO := Lib.hid hx.2.1
  have HN := Lib.hid hx.2.2.1
  have HT := Lib.hid hx.2.2.2
  have LI := Lib.hid (show T.ins.length ≤ 1000000 by omega)
  have LO := Lib.hid (show T.outs.length ≤ 1000000 by omega)
  have LN := Lib.hid (show T.nulls.length ≤ 1000000 by omega)
  have LT := Lib.hid (show T.notes.length ≤ 1000000 by omega)
  have HH := Lib.hid h
  obtain ⟨m, hm⟩ : ∃ m : Nat, max T.ins.length (max T.outs.length (max T.nulls.length T.notes.length)) = m := ⟨_, rfl⟩
  have hmax : ∀ W ts t, (Builtin.max_ ts t #[.int .i64 T.ins.length, .int .i64 T.outs.length, .int .i64 T.nulls.length, .int .i64 T.notes.length]).run Try.prog W = .ok (.int .i64 (m : Int)) W := fun W ts t => hm ▸ run_max4 ts t _ _ _ _ W
  have hd : decide ((40 : Int) < m) = false := by simp; omega
  clear hm hx h
  have LB : ∀ w', From (w.alloc (.cells (txCells T Ai ci Ao co An cn At ct).toArray 29)) w' → Below w.heap.size w w' := fun w' hC => ((Below.refl _ _).alloc (Nat.le_refl _) _).trans (hC.below.mono (by simp))
  have LR : ∀ w', From (w.alloc (.cells (txCells T Ai ci Ao co An cn At ct).toArray 29)) w' → RowC w' w.heap.size 0 (txCells T Ai ci Ao co An cn At ct) := fun w' hC => HB.out.below hC.below (by simp)
  have Cexp := Lib.hid (fun (w' : World) (hC : From (w.alloc (.cells (txCells T Ai ci Ao co An cn At ct).toArray 29)) w') => (show w'.cell? ⟨w.heap.size, 0, none⟩ = some (.int .u32 T.exp.1) from by simpa using tx_exp (LR w' hC)))
  have Cins := Lib.hid (fun (w' : World) (hC : From (w.alloc (.cells (txCells T Ai ci Ao co An cn At ct).toArray 29)) w') => (show w'.cell? ⟨w.heap.size, 1, none⟩ = some (.slice Ai T.ins.length ci) from by simpa using tx_ins (LR w' hC)))
  have Couts := Lib.hid (fun (w' : World) (hC : From (w.alloc (.cells (txCells T Ai ci Ao co An cn At ct).toArray 29)) w') => (show w'.cell? ⟨w.heap.size, 2, none⟩ = some (.slice Ao T.outs.length co) from by simpa using tx_outs (LR w' hC)))
  have Cnulls := Lib.hid (fun (w' : World) (hC : From (w.alloc (.cells (txCells T Ai ci Ao co An cn At ct).toArray 29)) w') => (show w'.cell? ⟨w.heap.size, 35, none⟩ = some (.slice An T.nulls.length cn) from by simpa using tx_nulls (LR w' hC)))
  have Cnotes := Lib.hid (fun (w' : World) (hC : From (w.alloc (.cells (txCells T Ai ci Ao co An cn At ct).toArray 29)) w') => (show w'.cell? ⟨w.heap.size, 36, none⟩ = some (.slice At T.notes.length ct) from by simpa using tx_notes (LR w' hC)))
  have Cbal := Lib.hid (fun (w' : World) (hC : From (w.alloc (.cells (txCells T Ai ci Ao co An cn At ct).toArray 29)) w') => (show w'.cell? ⟨w.heap.size, 37, none⟩ = some (.int .i64 T.bal.1) from by simpa using tx_bal (LR w' hC)))
  have RI := Lib.hid (fun (w' : World) (hC : From (w.alloc (.cells (txCells T Ai ci Ao co An cn At ct).toArray 29)) w') => (HH.out.ins.below (LB w' hC)).more (LB w' hC).size)
  have RO := Lib.hid (fun (w' : World) (hC : From (w.alloc (.cells (txCells T Ai ci Ao co An cn At ct).toArray 29)) w') => (HH.out.outs.below (LB w' hC)).more (LB w' hC).size)
  have RN := Lib.hid (fun (w' : World) (hC : From (w.alloc (.cells (txCells T Ai ci Ao co An cn At ct).toArray 29)) w') => (HH.out.nulls.below (LB w' hC)).more (LB w' hC).size)
  have RT := Lib.hid (fun (w' : World) (hC : From (w.alloc (.cells (txCells T Ai ci Ao co An cn At ct).toArray 29)) w') => (HH.out.notes.below (LB w' hC)).more (LB w' hC).size)
  have HLB := Lib.hid LB
  clear LB LR
  go_enter Try.func26, Try.ntmps26
  go_wp2_with (first
    | ((with_reducible refine at_load 26 ?_); refine tyKy.wpList_load rfl (.tmp 26) rfl w.heap.size 3 rfl T.anchor (by simpa using HK.out) ?_)
    | ((with_reducible refine at_neqlg 27 28 ?_); refine wpList_neq_rowg (by rfl) 26 26 (.tmp 27) (.tmp 28) rfl (encK T.anchor).toArray (encK zeroKey).toArray rfl (congrArg Value.agg lit32k) (by kernel_rfl) true (fun V => by rw [eqKy_run, HR.out]) ?_; simp only [Act.put, List.setIfInBounds_toArray, List.set_cons_succ, List.set_cons_zero, Bool.not_true]))
  clear c1 c2 c4 c5
  refine wp_region_from (by kernel_rfl) (by kernel_rfl) ?_
  repeat (first
    | ((with_reducible refine at_qload 30 ?_); refine wpQuiet_load_one (by rfl) 22 (.tmp 30) rfl ⟨w.heap.size, 0, none⟩ rfl (.int .u32 T.exp.1) Try.isAgg22 Cexp.out ?_; simp only [Act.put, List.setIfInBounds_toArray, List.set_cons_succ, List.set_cons_zero])
    | ((with_reducible refine at_qload 33 ?_); refine wpQuiet_load_one (by rfl) 23 (.tmp 33) rfl ⟨w.heap.size, 1, none⟩ rfl (.slice Ai T.ins.length ci) Try.isAgg23 Cins.out ?_; simp only [Act.put, List.setIfInBounds_toArray, List.set_cons_succ, List.set_cons_zero])
    | ((with_reducible refine at_qload 37 ?_); refine wpQuiet_load_one (by rfl) 23 (.tmp 37) rfl ⟨w.heap.size, 1, none⟩ rfl (.slice Ai T.ins.length ci) Try.isAgg23 Cins.out ?_; simp only [Act.put, List.setIfInBounds_toArray, List.set_cons_succ, List.set_cons_zero])
    | ((with_reducible refine at_qload 41 ?_); refine wpQuiet_load_one (by rfl) 24 (.tmp 41) rfl ⟨w.heap.size, 2, none⟩ rfl (.slice Ao T.outs.length co) Try.isAgg24 Couts.out ?_; simp only [Act.put, List.setIfInBounds_toArray, List.set_cons_succ, List.set_cons_zero])
    | ((with_reducible refine at_qload 45 ?_); refine wpQuiet_load_one (by rfl) 24 (.tmp 45) rfl ⟨w.heap.size, 2, none⟩ rfl (.slice Ao T.outs.length co) Try.isAgg24 Couts.out ?_; simp only [Act.put, List.setIfInBounds_toArray, List.set_cons_succ, List.set_cons_zero])
    | ((with_reducible refine at_qload 49 ?_); refine wpQuiet_load_one (by rfl) 27 (.tmp 49) rfl ⟨w.heap.size, 35, none⟩ rfl (.slice An T.nulls.length cn) Try.isAgg27 Cnulls.out ?_; simp only [Act.put, List.setIfInBounds_toArray, List.set_cons_succ, List.set_cons_zero])
    | ((with_reducible refine at_qload 55 ?_); refine wpQuiet_load_one (by rfl) 27 (.tmp 55) rfl ⟨w.heap.size, 35, none⟩ rfl (.slice An T.nulls.length cn) Try.isAgg27 Cnulls.out ?_; simp only [Act.put, List.setIfInBounds_toArray, List.set_cons_succ, List.set_cons_zero])
    | ((with_reducible refine at_qload 59 ?_); refine wpQuiet_load_one (by rfl) 27 (.tmp 59) rfl ⟨w.heap.size, 36, none⟩ rfl (.slice At T.notes.length ct) Try.isAgg27 Cnotes.out ?_; simp only [Act.put, List.setIfInBounds_toArray, List.set_cons_succ, List.set_cons_zero])
    | ((with_reducible refine at_qload 63 ?_); refine wpQuiet_load_one (by rfl) 27 (.tmp 63) rfl ⟨w.heap.size, 36, none⟩ rfl (.slice At T.notes.length ct) Try.isAgg27 Cnotes.out ?_; simp only [Act.put, List.setIfInBounds_toArray, List.set_cons_succ, List.set_cons_zero])
    | ((with_reducible refine at_qload 67 ?_); refine wpQuiet_load_one (by rfl) 2 (.tmp 67) rfl ⟨w.heap.size, 37, none⟩ rfl (.int .i64 T.bal.1) Try.isAgg2 Cbal.out ?_; simp only [Act.put, List.setIfInBounds_toArray, List.set_cons_succ, List.set_cons_zero])
    | (go_big_quiet_want; go_big_quiet_op; refine ⟨_, fun _ _ => by with_reducible rfl, ?_⟩; go_big_quiet_on)
    | go_big_quiet_step ((intro hC; first
        | (go_at_call 35; with_reducible exact (number_any T.exp _).mono fun _ _ h => ⟨h.1, hC.call h.2⟩)
        | (go_at_call 36; with_reducible exact (countPt_any Ai T.ins.length ci LI.out _).mono fun _ _ h => ⟨h.1, hC.call h.2⟩)
        | (go_at_call 37; with_reducible exact (joinPt_any Ai ci T.ins _ (RI.out _ hC) (by have := HI.out; omega)).mono fun _ _ h => ⟨h.1, hC.call h.2⟩)
        | (go_at_call 39; with_reducible exact (countOut_any Ao T.outs.length co LO.out _).mono fun _ _ h => ⟨h.1, hC.call h.2⟩)
        | (go_at_call 40; with_reducible exact (joinOut_any Ao co T.outs _ (RO.out _ hC) (by have := HO.out; omega)).mono fun _ _ h => ⟨h.1, hC.call h.2⟩)
        | (go_at_call 42; with_reducible exact (countKey_any An T.nulls.length cn LN.out _).mono fun _ _ h => ⟨h.1, hC.call h.2⟩)
        | (go_at_call 42; with_reducible exact (countKey_any At T.notes.length ct LT.out _).mono fun _ _ h => ⟨h.1, hC.call h.2⟩)
        | (go_at_call 43; with_reducible exact (joinKey_any An cn T.nulls _ (RN.out _ hC) (by have := HN.out; omega)).mono fun _ _ h => ⟨h.1, hC.call h.2⟩)
        | (go_at_call 43; with_reducible exact (joinKey_any At ct T.notes _ (RT.out _ hC) (by have := HT.out; omega)).mono fun _ _ h => ⟨h.1, hC.call h.2⟩)
        | (go_at_call 44; with_reducible exact (amount_any T.bal _).mono fun _ _ h => ⟨h.1, hC.call h.2⟩))))
  refine wpQuiet_nil ?_
  intro w9 hC
  go_wp2_with fail
  go_ret2
  rw [HE.out]
  exact ⟨rfl, HLB.out _ hC⟩
set_option maxRecDepth 20000 in
set_option maxHeartbeats 2000000 in
theorem enc_some (w : World) (h : TxIn w w.heap.size T Ai ci Ao co An cn At ct) (hx : T.ins.length ≤ 40 ∧ T.outs.length ≤ 40 ∧ T.nulls.length ≤ 40 ∧ T.notes.length ≤ 40) (h0 : 0 < T.nulls.length) :
    Calls Try.prog 26 #[.agg (txCells T Ai ci Ao co An cn At ct).toArray] w fun e w' => e = .returned (encV (encF T)) ∧ Below w.heap.size w w' := by
  rw [encF_fit T hx (fun q => by omega)]
  have hd0 : decide (0 < T.nulls.length) = true := by simp only [decide_eq_true_iff]; exact h0
  have E0 : txB T = ((putL T.exp.1.toNat 4) ++ ((cmpL T.ins.length) ++ ((T.ins.flatMap ptB) ++ ((cmpL T.outs.length) ++ ((T.outs.flatMap outB) ++ ((cmpL T.nulls.length) ++ ((T.anchor.1) ++ ((T.nulls.flatMap keyB) ++ ((cmpL T.notes.length) ++ ((T.notes.flatMap keyB) ++ (putL (ofI64 T.bal) 8))))))))))) := by
    have hk : ∀ l : List K32, l.flatMap (fun k => k.1) = l.flatMap keyB := fun _ => rfl
    have hz : ¬ T.nulls.length = 0 := by omega
    unfold txB manyB nullB
    simp only [hk, if_neg hz, List.append_assoc]
  clear h0
  have l0 : (putL T.exp.1.toNat 4).length ≤ 2000 := by rw [putL_len]; omega
  have b1 : (cmpL T.ins.length).length ≤ 2000 := Nat.le_trans (cmpL_le _) (by omega)
  have hadd1 : ∀ V, (Op.stringOp .add ⟨((putL T.exp.1.toNat 4)).toArray⟩ ⟨(cmpL T.ins.length).toArray⟩).run Try.prog V = .ok (.string ⟨(((putL T.exp.1.toNat 4) ++ (cmpL T.ins.length))).toArray⟩) V := fun V => run_string_add_lists V _ _ (by omega) (by omega)
  have l1 : (((putL T.exp.1.toNat 4) ++ (cmpL T.ins.length))).length ≤ 4000 := by
    have := l0
    simp only [List.length_append] at this ⊢
    omega
  have b2 : (T.ins.flatMap ptB).length ≤ 2000 := by rw [flat_len ptB 36 ptB_len]; omega
  have hadd2 : ∀ V, (Op.stringOp .add ⟨(((putL T.exp.1.toNat 4) ++ (cmpL T.ins.length))).toArray⟩ ⟨(T.ins.flatMap ptB).toArray⟩).run Try.prog V = .ok (.string ⟨(((putL T.exp.1.toNat 4) ++ ((cmpL T.ins.length) ++ (T.ins.flatMap ptB)))).toArray⟩) V := fun V => (run_string_add_lists V _ _ (by omega) (by omega)).trans (by simp only [List.append_assoc])
  have l2 : (((putL T.exp.1.toNat 4) ++ ((cmpL T.ins.length) ++ (T.ins.flatMap ptB)))).length ≤ 6000 := by
    have := l1
    simp only [List.length_append] at this ⊢
    omega
  have b3 : (cmpL T.outs.length).length ≤ 2000 := Nat.le_trans (cmpL_le _) (by omega)
  have hadd3 : ∀ V, (Op.stringOp .add ⟨(((putL T.exp.1.toNat 4) ++ ((cmpL T.ins.length) ++ (T.ins.flatMap ptB)))).toArray⟩ ⟨(cmpL T.outs.length).toArray⟩).run Try.prog V = .ok (.string ⟨(((putL T.exp.1.toNat 4) ++ ((cmpL T.ins.length) ++ ((T.ins.flatMap ptB) ++ (cmpL T.outs.length))))).toArray⟩) V := fun V => (run_string_add_lists V _ _ (by omega) (by omega)).trans (by simp only [List.append_assoc])
  have l3 : (((putL T.exp.1.toNat 4) ++ ((cmpL T.ins.length) ++ ((T.ins.flatMap ptB) ++ (cmpL T.outs.length))))).length ≤ 8000 := by
    have := l2
    simp only [List.length_append] at this ⊢
    omega
  have b4 : (T.outs.flatMap outB).length ≤ 2000 := by rw [flat_len outB 40 outB_len]; omega
  have hadd4 : ∀ V, (Op.stringOp .add ⟨(((putL T.exp.1.toNat 4) ++ ((cmpL T.ins.length) ++ ((T.ins.flatMap ptB) ++ (cmpL T.outs.length))))).toArray⟩ ⟨(T.outs.flatMap outB).toArray⟩).run Try.prog V = .ok (.string ⟨(((putL T.exp.1.toNat 4) ++ ((cmpL T.ins.length) ++ ((T.ins.flatMap ptB) ++ ((cmpL T.outs.length) ++ (T.outs.flatMap outB)))))).toArray⟩) V := fun V => (run_string_add_lists V _ _ (by omega) (by omega)).trans (by simp only [List.append_assoc])
  have l4 : (((putL T.exp.1.toNat 4) ++ ((cmpL T.ins.length) ++ ((T.ins.flatMap ptB) ++ ((cmpL T.outs.length) ++ (T.outs.flatMap outB)))))).length ≤ 10000 := by
    have := l3
    simp only [List.length_append] at this ⊢
    omega
  have b5 : (cmpL T.nulls.length).length ≤ 2000 := Nat.le_trans (cmpL_le _) (by omega)
  have hadd5 : ∀ V, (Op.stringOp .add ⟨(((putL T.exp.1.toNat 4) ++ ((cmpL T.ins.length) ++ ((T.ins.flatMap ptB) ++ ((cmpL T.outs.length) ++ (T.outs.flatMap outB)))))).toArray⟩ ⟨(cmpL T.nulls.length).toArray⟩).run Try.prog V = .ok (.string ⟨(((putL T.exp.1.toNat 4) ++ ((cmpL T.ins.length) ++ ((T.ins.flatMap ptB) ++ ((cmpL T.outs.length) ++ ((T.outs.flatMap outB) ++ (cmpL T.nulls.length))))))).toArray⟩) V := fun V => (run_string_add_lists V _ _ (by omega) (by omega)).trans (by simp only [List.append_assoc])
  have l5 : (((putL T.exp.1.toNat 4) ++ ((cmpL T.ins.length) ++ ((T.ins.flatMap ptB) ++ ((cmpL T.outs.length) ++ ((T.outs.flatMap outB) ++ (cmpL T.nulls.length))))))).length ≤ 12000 := by
    have := l4
    simp only [List.length_append] at this ⊢
    omega
  have b6 : (T.anchor.1).length ≤ 2000 := by rw [T.anchor.2]; omega
  have hadd6 : ∀ V, (Op.stringOp .add ⟨(((putL T.exp.1.toNat 4) ++ ((cmpL T.ins.length) ++ ((T.ins.flatMap ptB) ++ ((cmpL T.outs.length) ++ ((T.outs.flatMap outB) ++ (cmpL T.nulls.length))))))).toArray⟩ ⟨(T.anchor.1).toArray⟩).run Try.prog V = .ok (.string ⟨(((putL T.exp.1.toNat 4) ++ ((cmpL T.ins.length) ++ ((T.ins.flatMap ptB) ++ ((cmpL T.outs.length) ++ ((T.outs.flatMap outB) ++ ((cmpL T.nulls.length) ++ (T.anchor.1)))))))).toArray⟩) V := fun V => (run_string_add_lists V _ _ (by omega) (by omega)).trans (by simp only [List.append_assoc])
  have l6 : (((putL T.exp.1.toNat 4) ++ ((cmpL T.ins.length) ++ ((T.ins.flatMap ptB) ++ ((cmpL T.outs.length) ++ ((T.outs.flatMap outB) ++ ((cmpL T.nulls.length) ++ (T.anchor.1)))))))).length ≤ 14000 := by
    have := l5
    simp only [List.length_append] at this ⊢
    omega
  have b7 : (T.nulls.flatMap keyB).length ≤ 2000 := by rw [flat_len keyB 32 keyB_len]; omega
  have hadd7 : ∀ V, (Op.stringOp .add ⟨(((putL T.exp.1.toNat 4) ++ ((cmpL T.ins.length) ++ ((T.ins.flatMap ptB) ++ ((cmpL T.outs.length) ++ ((T.outs.flatMap outB) ++ ((cmpL T.nulls.length) ++ (T.anchor.1)))))))).toArray⟩ ⟨(T.nulls.flatMap keyB).toArray⟩).run Try.prog V = .ok (.string ⟨(((putL T.exp.1.toNat 4) ++ ((cmpL T.ins.length) ++ ((T.ins.flatMap ptB) ++ ((cmpL T.outs.length) ++ ((T.outs.flatMap outB) ++ ((cmpL T.nulls.length) ++ ((T.anchor.1) ++ (T.nulls.flatMap keyB))))))))).toArray⟩) V := fun V => (run_string_add_lists V _ _ (by omega) (by omega)).trans (by simp only [List.append_assoc])
  have l7 : (((putL T.exp.1.toNat 4) ++ ((cmpL T.ins.length) ++ ((T.ins.flatMap ptB) ++ ((cmpL T.outs.length) ++ ((T.outs.flatMap outB) ++ ((cmpL T.nulls.length) ++ ((T.anchor.1) ++ (T.nulls.flatMap keyB))))))))).length ≤ 16000 := by
    have := l6
    simp only [List.length_append] at this ⊢
    omega
  have b8 : (cmpL T.notes.length).length ≤ 2000 := Nat.le_trans (cmpL_le _) (by omega)
  have hadd8 : ∀ V, (Op.stringOp .add ⟨(((putL T.exp.1.toNat 4) ++ ((cmpL T.ins.length) ++ ((T.ins.flatMap ptB) ++ ((cmpL T.outs.length) ++ ((T.outs.flatMap outB) ++ ((cmpL T.nulls.length) ++ ((T.anchor.1) ++ (T.nulls.flatMap keyB))))))))).toArray⟩ ⟨(cmpL T.notes.length).toArray⟩).run Try.prog V = .ok (.string ⟨(((putL T.exp.1.toNat 4) ++ ((cmpL T.ins.length) ++ ((T.ins.flatMap ptB) ++ ((cmpL T.outs.length) ++ ((T.outs.flatMap outB) ++ ((cmpL T.nulls.length) ++ ((T.anchor.1) ++ ((T.nulls.flatMap keyB) ++ (cmpL T.notes.length)))))))))).toArray⟩) V := fun V => (run_string_add_lists V _ _ (by omega) (by omega)).trans (by simp only [List.append_assoc])
  have l8 : (((putL T.exp.1.toNat 4) ++ ((cmpL T.ins.length) ++ ((T.ins.flatMap ptB) ++ ((cmpL T.outs.length) ++ ((T.outs.flatMap outB) ++ ((cmpL T.nulls.length) ++ ((T.anchor.1) ++ ((T.nulls.flatMap keyB) ++ (cmpL T.notes.length)))))))))).length ≤ 18000 := by
    have := l7
    simp only [List.length_append] at this ⊢
    omega
  have b9 : (T.notes.flatMap keyB).length ≤ 2000 := by rw [flat_len keyB 32 keyB_len]; omega
  have hadd9 : ∀ V, (Op.stringOp .add ⟨(((putL T.exp.1.toNat 4) ++ ((cmpL T.ins.length) ++ ((T.ins.flatMap ptB) ++ ((cmpL T.outs.length) ++ ((T.outs.flatMap outB) ++ ((cmpL T.nulls.length) ++ ((T.anchor.1) ++ ((T.nulls.flatMap keyB) ++ (cmpL T.notes.length)))))))))).toArray⟩ ⟨(T.notes.flatMap keyB).toArray⟩).run Try.prog V = .ok (.string ⟨(((putL T.exp.1.toNat 4) ++ ((cmpL T.ins.length) ++ ((T.ins.flatMap ptB) ++ ((cmpL T.outs.length) ++ ((T.outs.flatMap outB) ++ ((cmpL T.nulls.length) ++ ((T.anchor.1) ++ ((T.nulls.flatMap keyB) ++ ((cmpL T.notes.length) ++ (T.notes.flatMap keyB))))))))))).toArray⟩) V := fun V => (run_string_add_lists V _ _ (by omega) (by omega)).trans (by simp only [List.append_assoc])
  have l9 : (((putL T.exp.1.toNat 4) ++ ((cmpL T.ins.length) ++ ((T.ins.flatMap ptB) ++ ((cmpL T.outs.length) ++ ((T.outs.flatMap outB) ++ ((cmpL T.nulls.length) ++ ((T.anchor.1) ++ ((T.nulls.flatMap keyB) ++ ((cmpL T.notes.length) ++ (T.notes.flatMap keyB))))))))))).length ≤ 20000 := by
    have := l8
    simp only [List.length_append] at this ⊢
    omega
  have b10 : (putL (ofI64 T.bal) 8).length ≤ 2000 := by rw [putL_len]; omega
  have hadd10 : ∀ V, (Op.stringOp .add ⟨(((putL T.exp.1.toNat 4) ++ ((cmpL T.ins.length) ++ ((T.ins.flatMap ptB) ++ ((cmpL T.outs.length) ++ ((T.outs.flatMap outB) ++ ((cmpL T.nulls.length) ++ ((T.anchor.1) ++ ((T.nulls.flatMap keyB) ++ ((cmpL T.notes.length) ++ (T.notes.flatMap keyB))))))))))).toArray⟩ ⟨(putL (ofI64 T.bal) 8).toArray⟩).run Try.prog V = .ok (.string ⟨(((putL T.exp.1.toNat 4) ++ ((cmpL T.ins.length) ++ ((T.ins.flatMap ptB) ++ ((cmpL T.outs.length) ++ ((T.outs.flatMap outB) ++ ((cmpL T.nulls.length) ++ ((T.anchor.1) ++ ((T.nulls.flatMap keyB) ++ ((cmpL T.notes.length) ++ ((T.notes.flatMap keyB) ++ (putL (ofI64 T.bal) 8)))))))))))).toArray⟩) V := fun V => (run_string_add_lists V _ _ (by omega) (by omega)).trans (by simp only [List.append_assoc])
  have l10 : (((putL T.exp.1.toNat 4) ++ ((cmpL T.ins.length) ++ ((T.ins.flatMap ptB) ++ ((cmpL T.outs.length) ++ ((T.outs.flatMap outB) ++ ((cmpL T.nulls.length) ++ ((T.anchor.1) ++ ((T.nulls.flatMap keyB) ++ ((cmpL T.notes.length) ++ ((T.notes.flatMap keyB) ++ (putL (ofI64 T.bal) 8)))))))))))).length ≤ 22000 := by
    have := l9
    simp only [List.length_append] at this ⊢
    omega
  clear l0 l1 l2 l3 l4 l5 l6 l7 l8 l9 l10 b1 b2 b3 b4 b5 b6 b7 b8 b9 b10
  have HE := Lib.hid E0
  clear E0
  have hb : RowC (w.alloc (.cells (txCells T Ai ci Ao co An cn At ct).toArray 29)) w.heap.size 0 (txCells T Ai ci Ao co An cn At ct) := RowC.of_blk (Blk.new _ _ _)
  have c1 := tx_ins hb
  have c2 := tx_outs hb
  have c4 := tx_nulls hb
  have c5 := tx_notes hb
  have HK := Lib.hid (tx_anchor hb)
  have HB := Lib.hid hb
  clear hb
  simp only [Nat.zero_add] at c1 c2 c4 c5
  have HI := Lib.hid hx.1
  have HO := Lib.hid hx.2.1
  have HN := Lib.hid hx.2.2.1
  have HT := Lib.hid hx.2.2.2
  have LI := Lib.hid (show T.ins.length ≤ 1000000 by omega)
  have LO := Lib.hid (show T.outs.length ≤ 1000000 by omega)
  have LN := Lib.hid (show T.nulls.length ≤ 1000000 by omega)
  have LT := Lib.hid (show T.notes.length ≤ 1000000 by omega)
  have HH := Lib.hid h
  obtain ⟨m, hm⟩ : ∃ m : Nat, max T.ins.length (max T.outs.length (max T.nulls.length T.notes.length)) = m := ⟨_, rfl⟩
  have hmax : ∀ W ts t, (Builtin.max_ ts t #[.int .i64 T.ins.length, .int .i64 T.outs.length, .int .i64 T.nulls.length, .int .i64 T.notes.length]).run Try.prog W = .ok (.int .i64 (m : Int)) W := fun W ts t => hm ▸ run_max4 ts t _ _ _ _ W
  have hd : decide ((40 : Int) < m) = false := by simp; omega
  clear hm hx h
  go_enter Try.func26, Try.ntmps26
  go_wp2_with ((with_reducible refine at_load 23 ?_); refine tyKy.wpList_load rfl (.tmp 23) rfl w.heap.size 3 rfl T.anchor (by simpa using HK.out) ?_)
  refine (bytesK_any T.anchor _).mono ?_
  rintro e w1 ⟨rfl, b1⟩
  have B1 : Below w.heap.size w w1 := ((Below.refl _ _).alloc (Nat.le_refl _) _).trans (b1.mono (by simp))
  have lt1 : w.heap.size < w1.heap.size := by have := b1.size; simp at this; omega
  have LB : ∀ w', From w1 w' → Below w.heap.size w w' := fun w' hC => B1.trans (hC.below.mono B1.size)
  have LR : ∀ w', From w1 w' → RowC w' w.heap.size 0 (txCells T Ai ci Ao co An cn At ct) := fun w' hC => (HB.out.below b1 (by simp)).below hC.below lt1
  have Cexp := Lib.hid (fun (w' : World) (hC : From w1 w') => (show w'.cell? ⟨w.heap.size, 0, none⟩ = some (.int .u32 T.exp.1) from by simpa using tx_exp (LR w' hC)))
  have Cins := Lib.hid (fun (w' : World) (hC : From w1 w') => (show w'.cell? ⟨w.heap.size, 1, none⟩ = some (.slice Ai T.ins.length ci) from by simpa using tx_ins (LR w' hC)))
  have Couts := Lib.hid (fun (w' : World) (hC : From w1 w') => (show w'.cell? ⟨w.heap.size, 2, none⟩ = some (.slice Ao T.outs.length co) from by simpa using tx_outs (LR w' hC)))
  have Cnulls := Lib.hid (fun (w' : World) (hC : From w1 w') => (show w'.cell? ⟨w.heap.size, 35, none⟩ = some (.slice An T.nulls.length cn) from by simpa using tx_nulls (LR w' hC)))
  have Cnotes := Lib.hid (fun (w' : World) (hC : From w1 w') => (show w'.cell? ⟨w.heap.size, 36, none⟩ = some (.slice At T.notes.length ct) from by simpa using tx_notes (LR w' hC)))
  have Cbal := Lib.hid (fun (w' : World) (hC : From w1 w') => (show w'.cell? ⟨w.heap.size, 37, none⟩ = some (.int .i64 T.bal.1) from by simpa using tx_bal (LR w' hC)))
  have RI := Lib.hid (fun (w' : World) (hC : From w1 w') => (HH.out.ins.below (LB w' hC)).more (LB w' hC).size)
  have RO := Lib.hid (fun (w' : World) (hC : From w1 w') => (HH.out.outs.below (LB w' hC)).more (LB w' hC).size)
  have RN := Lib.hid (fun (w' : World) (hC : From w1 w') => (HH.out.nulls.below (LB w' hC)).more (LB w' hC).size)
  have RT := Lib.hid (fun (w' : World) (hC : From w1 w') => (HH.out.notes.below (LB w' hC)).more (LB w' hC).size)
  have HLB := Lib.hid LB
  clear LB LR c1 c2 c4 c5 b1 B1 lt1 HB HK HH
  go_wp2_with fail
  refine wp_region_from (by kernel_rfl) (by kernel_rfl) ?_
  repeat (first
    | ((with_reducible refine at_qload 30 ?_); refine wpQuiet_load_one (by rfl) 22 (.tmp 30) rfl ⟨w.heap.size, 0, none⟩ rfl (.int .u32 T.exp.1) Try.isAgg22 Cexp.out ?_; simp only [Act.put, List.setIfInBounds_toArray, List.set_cons_succ, List.set_cons_zero])
    | ((with_reducible refine at_qload 33 ?_); refine wpQuiet_load_one (by rfl) 23 (.tmp 33) rfl ⟨w.heap.size, 1, none⟩ rfl (.slice Ai T.ins.length ci) Try.isAgg23 Cins.out ?_; simp only [Act.put, List.setIfInBounds_toArray, List.set_cons_succ, List.set_cons_zero])
    | ((with_reducible refine at_qload 37 ?_); refine wpQuiet_load_one (by rfl) 23 (.tmp 37) rfl ⟨w.heap.size, 1, none⟩ rfl (.slice Ai T.ins.length ci) Try.isAgg23 Cins.out ?_; simp only [Act.put, List.setIfInBounds_toArray, List.set_cons_succ, List.set_cons_zero])
    | ((with_reducible refine at_qload 41 ?_); refine wpQuiet_load_one (by rfl) 24 (.tmp 41) rfl ⟨w.heap.size, 2, none⟩ rfl (.slice Ao T.outs.length co) Try.isAgg24 Couts.out ?_; simp only [Act.put, List.setIfInBounds_toArray, List.set_cons_succ, List.set_cons_zero])
    | ((with_reducible refine at_qload 45 ?_); refine wpQuiet_load_one (by rfl) 24 (.tmp 45) rfl ⟨w.heap.size, 2, none⟩ rfl (.slice Ao T.outs.length co) Try.isAgg24 Couts.out ?_; simp only [Act.put, List.setIfInBounds_toArray, List.set_cons_succ, List.set_cons_zero])
    | ((with_reducible refine at_qload 49 ?_); refine wpQuiet_load_one (by rfl) 27 (.tmp 49) rfl ⟨w.heap.size, 35, none⟩ rfl (.slice An T.nulls.length cn) Try.isAgg27 Cnulls.out ?_; simp only [Act.put, List.setIfInBounds_toArray, List.set_cons_succ, List.set_cons_zero])
    | ((with_reducible refine at_qload 55 ?_); refine wpQuiet_load_one (by rfl) 27 (.tmp 55) rfl ⟨w.heap.size, 35, none⟩ rfl (.slice An T.nulls.length cn) Try.isAgg27 Cnulls.out ?_; simp only [Act.put, List.setIfInBounds_toArray, List.set_cons_succ, List.set_cons_zero])
    | ((with_reducible refine at_qload 59 ?_); refine wpQuiet_load_one (by rfl) 27 (.tmp 59) rfl ⟨w.heap.size, 36, none⟩ rfl (.slice At T.notes.length ct) Try.isAgg27 Cnotes.out ?_; simp only [Act.put, List.setIfInBounds_toArray, List.set_cons_succ, List.set_cons_zero])
    | ((with_reducible refine at_qload 63 ?_); refine wpQuiet_load_one (by rfl) 27 (.tmp 63) rfl ⟨w.heap.size, 36, none⟩ rfl (.slice At T.notes.length ct) Try.isAgg27 Cnotes.out ?_; simp only [Act.put, List.setIfInBounds_toArray, List.set_cons_succ, List.set_cons_zero])
    | ((with_reducible refine at_qload 67 ?_); refine wpQuiet_load_one (by rfl) 2 (.tmp 67) rfl ⟨w.heap.size, 37, none⟩ rfl (.int .i64 T.bal.1) Try.isAgg2 Cbal.out ?_; simp only [Act.put, List.setIfInBounds_toArray, List.set_cons_succ, List.set_cons_zero])
    | (go_big_quiet_want; go_big_quiet_op; refine ⟨_, fun _ _ => by with_reducible rfl, ?_⟩; go_big_quiet_on)
    | go_big_quiet_step ((intro hC; first
        | (go_at_call 35; with_reducible exact (number_any T.exp _).mono fun _ _ h => ⟨h.1, hC.call h.2⟩)
        | (go_at_call 36; with_reducible exact (countPt_any Ai T.ins.length ci LI.out _).mono fun _ _ h => ⟨h.1, hC.call h.2⟩)
        | (go_at_call 37; with_reducible exact (joinPt_any Ai ci T.ins _ (RI.out _ hC) (by have := HI.out; omega)).mono fun _ _ h => ⟨h.1, hC.call h.2⟩)
        | (go_at_call 39; with_reducible exact (countOut_any Ao T.outs.length co LO.out _).mono fun _ _ h => ⟨h.1, hC.call h.2⟩)
        | (go_at_call 40; with_reducible exact (joinOut_any Ao co T.outs _ (RO.out _ hC) (by have := HO.out; omega)).mono fun _ _ h => ⟨h.1, hC.call h.2⟩)
        | (go_at_call 42; with_reducible exact (countKey_any An T.nulls.length cn LN.out _).mono fun _ _ h => ⟨h.1, hC.call h.2⟩)
        | (go_at_call 42; with_reducible exact (countKey_any At T.notes.length ct LT.out _).mono fun _ _ h => ⟨h.1, hC.call h.2⟩)
        | (go_at_call 43; with_reducible exact (joinKey_any An cn T.nulls _ (RN.out _ hC) (by have := HN.out; omega)).mono fun _ _ h => ⟨h.1, hC.call h.2⟩)
        | (go_at_call 43; with_reducible exact (joinKey_any At ct T.notes _ (RT.out _ hC) (by have := HT.out; omega)).mono fun _ _ h => ⟨h.1, hC.call h.2⟩)
        | (go_at_call 44; with_reducible exact (amount_any T.bal _).mono fun _ _ h => ⟨h.1, hC.call h.2⟩))))
  refine wpQuiet_nil ?_
  intro w9 hC
  go_wp2_with fail
  go_ret2
  rw [HE.out]
  exact ⟨rfl, HLB.out _ hC⟩
theorem enc_any (w : World) (h : TxIn w w.heap.size T Ai ci Ao co An cn At ct) :
    Calls Try.prog 26 #[.agg (txCells T Ai ci Ao co An cn At ct).toArray] w fun e w' => e = .returned (encV (encF T)) ∧ Below w.heap.size w w' := by
  by_cases hx : T.ins.length ≤ 40 ∧ T.outs.length ≤ 40 ∧ T.nulls.length ≤ 40 ∧ T.notes.length ≤ 40
  · by_cases h0 : T.nulls.length = 0
    · by_cases ha : T.anchor = zeroKey
      · exact enc_none w h hx h0 ha
      · exact enc_arg w h hx h0 ha
    · exact enc_some w h hx (by omega)
  · exact enc_many w (by omega)
end
end Go.Proofs.Ytpoejbfcioijhaa
/- What the statements of tx begin by: heavy, shown; tx.Coinbase. -/
namespace Go.Proofs.Ytpoejbfcioijhaa
open Go.RowKit
def heavyF (T : TxV) : Bool := decide (60 < T.ins.length ∨ 60 < T.outs.length ∨ 60 < T.nulls.length ∨ 60 < T.notes.length)
section
variable {T : TxV} {Ai Ao An At : Option Addr} {ci co cn ct : Nat}
def oneTx : TxV := ⟨toU32 1, [], [], zeroKey, [], [], toI64 0⟩
theorem encF_one : encF oneTx = ([1, 0, 0, 0, 0, 0, 0, 0, 0, 0, 0, 0, 0, 0, 0, 0], 0) := by decide +kernel
theorem enc_one (v : Value) (hv : v = .agg (txCells oneTx none 0 none 0 none 0 none 0).toArray) (w : World) :
    Calls Try.prog 26 #[v] w fun e w' => e = .returned (encV ([1, 0, 0, 0, 0, 0, 0, 0, 0, 0, 0, 0, 0, 0, 0, 0], 0)) ∧ Below w.heap.size w w' := by
  subst hv
  rw [← encF_one]
  exact enc_any w ⟨RowIn.nil (Nat.zero_le _), RowIn.nil (Nat.zero_le _), RowIn.nil (Nat.zero_le _), RowIn.nil (Nat.zero_le _)⟩
end
end Go.Proofs.Ytpoejbfcioijhaa
/- A transaction, with where its lists lie, as one thing; a type whose values have k cells: load and store. -/
namespace Go.Proofs.Ytpoejbfcioijhaa
open Go.RowKit
/-- a transaction, and where its lists lie -/
structure TxA where
  T : TxV
  Ai : Option Addr
  ci : Nat
  Ao : Option Addr
  co : Nat
  An : Option Addr
  cn : Nat
  At : Option Addr
  ct : Nat
def TxA.cells (a : TxA) : List Value := txCells a.T a.Ai a.ci a.Ao a.co a.An a.cn a.At a.ct
def TxA.In (w : World) (B : Nat) (a : TxA) : Prop := TxIn w B a.T a.Ai a.ci a.Ao a.co a.An a.cn a.At a.ct
theorem TxA.len (a : TxA) : a.cells.length = 38 := txCells_len
theorem TxA.one (a : TxA) : ∀ v ∈ a.cells, v.oneCell' = true := by
  intro v hv
  simp only [TxA.cells, txCells, List.mem_cons, List.mem_append, List.not_mem_nil, or_false] at hv
  rcases hv with rfl | rfl | rfl | h | rfl | rfl | rfl
  · rfl
  · rfl
  · rfl
  · exact encK_one _ v h
  · rfl
  · rfl
  · rfl
theorem tyTx : CellTy Try.prog 29 TxA.cells 38 := ⟨by kernel_rfl, TxA.len, TxA.one, Try.isAgg29⟩
theorem TxA.In.below {w w' : World} {B : Nat} {a : TxA} (h : a.In w B) (hb : Below B w w') : a.In w' B := TxIn.below h hb
theorem TxA.In.more {w : World} {B B' : Nat} {a : TxA} (h : a.In w B) (hB : B ≤ B') : a.In w B' := TxIn.more h hB
/-- in every world behind it lies as it did -/
theorem TxA.In.on {w w' : World} {B : Nat} {a : TxA} (h : a.In w B) (hb : Below B w w') (hB : B ≤ w.heap.size) : a.In w' w'.heap.size := (h.below hb).more (Nat.le_trans hB hb.size)
section
variable {w : World} {g : Nat} {a : TxA}
theorem TxA.c0 (h : RowC w g 0 a.cells) : w.cell? ⟨g, 0, none⟩ = some (.int .u32 a.T.exp.1) := tx_exp h
theorem TxA.c1 (h : RowC w g 0 a.cells) : w.cell? ⟨g, 1, none⟩ = some (.slice a.Ai a.T.ins.length a.ci) := by have := tx_ins h; rwa [Nat.zero_add] at this
theorem TxA.c2 (h : RowC w g 0 a.cells) : w.cell? ⟨g, 2, none⟩ = some (.slice a.Ao a.T.outs.length a.co) := by have := tx_outs h; rwa [Nat.zero_add] at this
theorem TxA.c3 (h : RowC w g 0 a.cells) : RowC w g 3 (encK a.T.anchor) := by have := tx_anchor h; rwa [Nat.zero_add] at this
theorem TxA.c4 (h : RowC w g 0 a.cells) : w.cell? ⟨g, 35, none⟩ = some (.slice a.An a.T.nulls.length a.cn) := by have := tx_nulls h; rwa [Nat.zero_add] at this
theorem TxA.c5 (h : RowC w g 0 a.cells) : w.cell? ⟨g, 36, none⟩ = some (.slice a.At a.T.notes.length a.ct) := by have := tx_notes h; rwa [Nat.zero_add] at this
theorem TxA.c6 (h : RowC w g 0 a.cells) : w.cell? ⟨g, 37, none⟩ = some (.int .i64 a.T.bal.1) := by have := tx_bal h; rwa [Nat.zero_add] at this
end
theorem encA_any (a : TxA) (w : World) (h : a.In w w.heap.size) :
    Calls Try.prog 26 #[.agg a.cells.toArray] w fun e w' => e = .returned (encV (encF a.T)) ∧ Below w.heap.size w w' := enc_any w h
end Go.Proofs.Ytpoejbfcioijhaa
/- tx.Coinbase, and the document's. Written by genCoin.py. -/
namespace Go.Proofs.Ytpoejbfcioijhaa
open Go.RowKit
def coinF (T : TxV) : Bool := match T.ins with
  | [p] => decide (p.1 = zeroKey)
  | _ => false
theorem coinF_no (T : TxV) (h : T.ins.length ≠ 1) : coinF T = false := by
  unfold coinF
  split
  · rename_i p hp; rw [hp] at h; simp at h
  · rfl
theorem coinF_one (T : TxV) (h : T.ins.length = 1) : coinF T = decide ((T.ins[0]'(by omega)).1 = zeroKey) := by
  obtain ⟨q, hq⟩ := List.length_eq_one_iff.1 h
  simp [coinF, hq]
end Go.Proofs.Ytpoejbfcioijhaa
/- The document's Same. Written by genSame.py. -/
namespace Go.Proofs.Ytpoejbfcioijhaa
open Go.RowKit
theorem eqPt_run (x y : K32 × IntV .u32) (V : World) : (Op.equal 62 (.agg (encKI .u32 x).toArray) (.agg (encKI .u32 y).toArray)).run Try.prog V = .ok (decide (x = y)) V :=
  run_eq_KI (f0 := (Try.prog.fieldsOf 62)[0]!) (f1 := (Try.prog.fieldsOf 62)[1]!) V (by kernel_rfl) (by kernel_rfl) (by decide +kernel) (by decide +kernel) (by kernel_rfl) (by kernel_rfl) (by kernel_rfl) (by kernel_rfl) Try.underlying26 Try.underlying5 (by kernel_rfl) (by kernel_rfl) Try.underlying22 x y
theorem eqOut_run (x y : IntV .i64 × K32) (V : World) : (Op.equal 64 (.agg (encIK .i64 x).toArray) (.agg (encIK .i64 y).toArray)).run Try.prog V = .ok (decide (x = y)) V :=
  run_eq_IK (f0 := (Try.prog.fieldsOf 64)[0]!) (f1 := (Try.prog.fieldsOf 64)[1]!) V (by kernel_rfl) (by kernel_rfl) (by decide +kernel) (by decide +kernel) (by kernel_rfl) (by kernel_rfl) (by kernel_rfl) (by kernel_rfl) Try.underlying26 Try.underlying5 (by kernel_rfl) (by kernel_rfl) Try.underlying2 x y
theorem take_eq_succ {α : Type} {l m : List α} {j : Nat} (h : l.take j = m.take j) (h1 : j < l.length) (h2 : j < m.length) (he : l[j] = m[j]) : l.take (j + 1) = m.take (j + 1) := by
  rw [List.take_succ_eq_append_getElem h1, List.take_succ_eq_append_getElem h2, h, he]
theorem txv_ext {T U : TxV} (h1 : T.exp = U.exp) (h2 : T.ins = U.ins) (h3 : T.outs = U.outs) (h4 : T.anchor = U.anchor) (h5 : T.nulls = U.nulls) (h6 : T.notes = U.notes) (h7 : T.bal = U.bal) : T = U := by
  cases T; cases U
  simp only at h1 h2 h3 h4 h5 h6 h7
  subst h1 h2 h3 h4 h5 h6 h7
  rfl
theorem intv_ext {q : IntKind} {x y : IntV q} (h : x.1 = y.1) : x = y := Subtype.ext h
end Go.Proofs.Ytpoejbfcioijhaa
