/- TxAllA: TxP, TxQ, TxA, TxJ, TxE, TxH, TxW, TxK, TxY, in one text. -/
import Derived.Test.YtimhophelecmjaaGenA
import Derived.Test.YtimhophelecmjaaCellA
import Derived.Test.YtimhophelecmjaaCodAll
import Derived.Test.YtimhophelecmjaaBld
/- Plain: what is written is read, and nothing else; a transaction's bytes. -/
namespace Go.Proofs.Ytimhophelecmjaa
abbrev Rd (α : Type) := List UInt8 → Except Int (α × List UInt8)
/-- R reads what W writes of what is V, and nothing else; a beginning of it is too short -/
structure Good {α : Type} (W : α → List UInt8) (R : Rd α) (V : α → Prop) : Prop where
  fwd : ∀ a rest, V a → R (W a ++ rest) = .ok (a, rest)
  bwd : ∀ s a r, R s = .ok (a, r) → V a ∧ s = W a ++ r
  cut : ∀ a i, V a → i < (W a).length → R ((W a).take i) = .error 30
def thenR {α β : Type} (R1 : Rd α) (R2 : α → Rd β) : Rd (α × β) := fun s =>
  match R1 s with
  | .error e => .error e
  | .ok (a, r) => match R2 a r with
    | .error e => .error e
    | .ok (b, r') => .ok ((a, b), r')
theorem Good.then_ {α β : Type} {W1 : α → List UInt8} {R1 : Rd α} {V1 : α → Prop} {W2 : α → β → List UInt8} {R2 : α → Rd β} {V2 : α → β → Prop} (h1 : Good W1 R1 V1) (h2 : ∀ a, V1 a → Good (W2 a) (R2 a) (V2 a)) :
    Good (fun p : α × β => W1 p.1 ++ W2 p.1 p.2) (thenR R1 R2) (fun p => V1 p.1 ∧ V2 p.1 p.2) where
  fwd := by
    rintro ⟨a, b⟩ rest ⟨v1, v2⟩
    simp only [thenR, List.append_assoc, h1.fwd a _ v1, (h2 a v1).fwd b _ v2]
  bwd := by
    rintro s ⟨a, b⟩ r h
    unfold thenR at h
    split at h
    · cases h
    · rename_i a' r1 e1
      split at h
      · cases h
      · rename_i b' r2 e2
        injection h with h
        injection h with h3 h4
        injection h3 with h5 h6
        subst h5 h6 h4
        obtain ⟨v1, rfl⟩ := h1.bwd _ _ _ e1
        obtain ⟨v2, rfl⟩ := (h2 _ v1).bwd _ _ _ e2
        exact ⟨⟨v1, v2⟩, by rw [List.append_assoc]⟩
  cut := by
    rintro ⟨a, b⟩ i ⟨v1, v2⟩ hi
    simp only [List.length_append] at hi
    simp only [thenR]
    by_cases hl : i < (W1 a).length
    · rw [List.take_append_of_le_length (Nat.le_of_lt hl), h1.cut a i v1 hl]
    · rw [List.take_append, List.take_of_length_le (by omega), h1.fwd a _ v1]
      simp only
      rw [(h2 a v1).cut b (i - (W1 a).length) v2 (by omega)]
def mapR {α β : Type} (f : α → β) (R : Rd α) : Rd β := fun s =>
  match R s with
  | .error e => .error e
  | .ok (a, r) => .ok (f a, r)
theorem Good.map {α β : Type} {W : α → List UInt8} {R : Rd α} {V : α → Prop} (h : Good W R V) (f : α → β) (g : β → α) {V' : β → Prop} (hfg : ∀ b, V' b → f (g b) = b) (hgf : ∀ a, V a → g (f a) = a) (hv : ∀ b, V' b → V (g b)) (hv' : ∀ a, V a → V' (f a)) :
    Good (fun b => W (g b)) (mapR f R) V' where
  fwd := fun b rest v => by simp only [mapR, h.fwd (g b) rest (hv b v), hfg b v]
  bwd := by
    intro s b r e
    unfold mapR at e
    split at e
    · cases e
    · rename_i a r1 e1
      injection e with e
      injection e with e2 e3
      subst e2 e3
      obtain ⟨v, rfl⟩ := h.bwd _ _ _ e1
      exact ⟨hv' a v, by rw [hgf a v]⟩
  cut := fun b i v hi => by simp only [mapR, h.cut (g b) i (hv b v) hi]
def listR {α : Type} (R : Rd α) : Nat → Rd (List α)
  | 0 => fun s => .ok ([], s)
  | n + 1 => mapR (fun p : α × List α => p.1 :: p.2) (thenR R (fun _ => listR R n))
theorem Good.list {α : Type} {W : α → List UInt8} {R : Rd α} {V : α → Prop} (h : Good W R V) : ∀ n, Good (fun l : List α => l.flatMap W) (listR R n) (fun l => l.length = n ∧ ∀ x ∈ l, V x)
  | 0 => {
      fwd := fun a rest v => by
        obtain rfl : a = [] := List.length_eq_zero_iff.1 v.1
        rfl
      bwd := fun s a r e => by
        simp only [listR, Except.ok.injEq, Prod.mk.injEq] at e
        obtain ⟨rfl, rfl⟩ := e
        exact ⟨⟨rfl, by simp⟩, rfl⟩
      cut := fun a i v hi => by
        obtain rfl : a = [] := List.length_eq_zero_iff.1 v.1
        simp at hi }
  | n + 1 => {
      fwd := fun a rest v => by
        match a, v with
        | x :: l, v =>
          have v2 : l.length = n ∧ ∀ y ∈ l, V y := ⟨by simpa using v.1, fun y hy => v.2 y (List.mem_cons_of_mem _ hy)⟩
          have h1 := (Good.then_ h (fun _ _ => Good.list h n)).fwd (x, l) rest ⟨v.2 x (by simp), v2⟩
          simp only [listR, mapR, List.flatMap_cons, h1]
      bwd := fun s a r e => by
        simp only [listR] at e
        unfold mapR at e
        split at e
        · cases e
        · rename_i p r1 e1
          injection e with e
          injection e with e2 e3
          subst e2 e3
          obtain ⟨⟨v1, v2⟩, rfl⟩ := (Good.then_ h (fun _ _ => Good.list h n)).bwd _ _ _ e1
          exact ⟨⟨by simp [v2.1], fun y hy => (List.mem_cons.1 hy).elim (fun q => q ▸ v1) (v2.2 y)⟩, by rw [List.flatMap_cons]⟩
      cut := fun a i v hi => by
        match a, v with
        | x :: l, v =>
          have v2 : l.length = n ∧ ∀ y ∈ l, V y := ⟨by simpa using v.1, fun y hy => v.2 y (List.mem_cons_of_mem _ hy)⟩
          have h1 := (Good.then_ h (fun _ _ => Good.list h n)).cut (x, l) i ⟨v.2 x (by simp), v2⟩ (by simpa using hi)
          simp only [listR, mapR, List.flatMap_cons, h1] }
/-- wd bytes, a number -/
def getR (wd : Nat) : Rd Nat := fun s => if s.length < wd then .error 30 else .ok (getN (s.take wd), s.drop wd)
theorem good_get (wd : Nat) : Good (fun n => putL n wd) (getR wd) (fun n => n < 2 ^ (8 * wd)) where
  fwd := fun n rest v => by
    have hl := putL_len n wd
    unfold getR
    rw [if_neg (by rw [List.length_append]; omega), List.take_append_of_le_length (by omega), List.take_of_length_le (by omega), List.drop_append_of_le_length (by omega), List.drop_of_length_le (by omega), getN_putL, Nat.mod_eq_of_lt v]
    rfl
  bwd := fun s a r e => by
    unfold getR at e
    split at e
    · cases e
    · rename_i hl
      injection e with e
      injection e with e2 e3
      subst e2 e3
      have ht : (s.take wd).length = wd := by rw [List.length_take]; omega
      refine ⟨?_, ?_⟩
      · have := getN_lt (s.take wd)
        rwa [ht] at this
      · have := putL_getN (s.take wd)
        rw [ht] at this
        rw [this, List.take_append_drop]
  cut := fun n i _ hi => by
    rw [putL_len] at hi
    unfold getR
    rw [if_pos (by rw [List.length_take, putL_len]; omega)]
/-- a key -/
def keyR : Rd K32 := fun s => if h : s.length < 32 then .error 30 else .ok (⟨s.take 32, by rw [List.length_take]; omega⟩, s.drop 32)
theorem good_key : Good (fun k : K32 => k.1) keyR (fun _ => True) where
  fwd := fun k rest _ => by
    have hl := k.2
    unfold keyR
    rw [dif_neg (by rw [List.length_append]; omega)]
    congr 2
    · apply Subtype.ext
      show (k.1 ++ rest).take 32 = k.1
      rw [List.take_append_of_le_length (by omega), List.take_of_length_le (by omega)]
    · rw [List.drop_append_of_le_length (by omega), List.drop_of_length_le (by omega)]; rfl
  bwd := fun s a r e => by
    unfold keyR at e
    split at e
    · cases e
    · injection e with e
      injection e with e2 e3
      subst e2 e3
      exact ⟨trivial, by simp⟩
  cut := fun k i _ hi => by
    rw [k.2] at hi
    unfold keyR
    rw [dif_pos (by rw [List.length_take, k.2]; omega)]
/-- a number of things, at most 40 -/
def numR : Rd Nat := fun s => match readF s with
  | (n, r, e) => if e = 0 then (if 40 < n then .error 51 else .ok (n, r)) else .error e
theorem good_num : Good cmpL numR (fun n => n ≤ 40) where
  fwd := fun n rest v => by
    unfold numR
    rw [readF_cmp n rest (by omega)]
    simp only [if_true]
    rw [if_neg (by omega)]
  bwd := fun s a r e => by
    unfold numR at e
    rcases readF_cases s with ⟨n, r', h1, h2, _⟩ | h1 | h1
    · rw [h1] at e
      simp only [if_true] at e
      split at e
      · cases e
      · rename_i hn
        injection e with e
        injection e with e2 e3
        subst e2 e3
        exact ⟨by omega, h2.symm⟩
    · rw [h1] at e
      simp at e
    · rw [h1] at e
      simp at e
  cut := fun n i _ hi => by
    unfold numR
    rw [readF_cut n i hi]
    rfl
end Go.Proofs.Ytimhophelecmjaa
/- Plain: a transaction's bytes, read and written. -/
namespace Go.Proofs.Ytimhophelecmjaa
theorem wf_u32 {z : Int} : (Lit.int .u32 z).wf = true ↔ 0 ≤ z ∧ z < 4294967296 := by
  simp [Lit.wf, IntKind.min, IntKind.max, IntKind.signed, IntKind.bits]
  omega
theorem wf_i64 {z : Int} : (Lit.int .i64 z).wf = true ↔ -9223372036854775808 ≤ z ∧ z < 9223372036854775808 := by
  simp [Lit.wf, IntKind.min, IntKind.max, IntKind.signed, IntKind.bits]
  omega
def toU32 (n : Nat) : IntV .u32 := ⟨((n % 4294967296 : Nat) : Int), wf_u32.2 (by omega)⟩
def toI64 (n : Nat) : IntV .i64 := ⟨if n % 18446744073709551616 < 9223372036854775808 then ((n % 18446744073709551616 : Nat) : Int) else ((n % 18446744073709551616 : Nat) : Int) - 18446744073709551616, wf_i64.2 (by split <;> omega)⟩
def ofI64 (z : IntV .i64) : Nat := (z.1 % 18446744073709551616).toNat
def u32R : Rd (IntV .u32) := mapR toU32 (getR 4)
def i64R : Rd (IntV .i64) := mapR toI64 (getR 8)
theorem good_u32 : Good (fun z : IntV .u32 => putL z.1.toNat 4) u32R (fun _ => True) :=
  (good_get 4).map toU32 (fun z => z.1.toNat)
    (fun z _ => Subtype.ext (by have := wf_u32.1 z.2; show ((z.1.toNat % 4294967296 : Nat) : Int) = z.1; omega))
    (fun n h => by show (((n % 4294967296 : Nat) : Int)).toNat = n; have : n < 4294967296 := h; omega)
    (fun z _ => by have := wf_u32.1 z.2; show z.1.toNat < 4294967296; omega) (fun _ _ => trivial)
theorem good_i64 : Good (fun z : IntV .i64 => putL (ofI64 z) 8) i64R (fun _ => True) :=
  (good_get 8).map toI64 ofI64
    (fun z _ => Subtype.ext (by
      have := wf_i64.1 z.2
      show (if ofI64 z % 18446744073709551616 < 9223372036854775808 then ((ofI64 z % 18446744073709551616 : Nat) : Int) else ((ofI64 z % 18446744073709551616 : Nat) : Int) - 18446744073709551616) = z.1
      unfold ofI64
      split <;> omega))
    (fun n h => by
      have h' : n < 18446744073709551616 := h
      unfold ofI64 toI64
      simp only
      split <;> omega)
    (fun z _ => by show ofI64 z < 18446744073709551616; unfold ofI64; omega) (fun _ _ => trivial)
def ptB (p : K32 × IntV .u32) : List UInt8 := p.1.1 ++ putL p.2.1.toNat 4
def outB (p : IntV .i64 × K32) : List UInt8 := putL (ofI64 p.1) 8 ++ p.2.1
def ptR : Rd (K32 × IntV .u32) := thenR keyR (fun _ => u32R)
def outR : Rd (IntV .i64 × K32) := thenR i64R (fun _ => keyR)
theorem good_pt : Good ptB ptR (fun _ => True ∧ True) := good_key.then_ (fun _ _ => good_u32)
theorem good_out : Good outB outR (fun _ => True ∧ True) := good_i64.then_ (fun _ _ => good_key)
/-- how many there are, and each -/
def manyB {α : Type} (W : α → List UInt8) (l : List α) : List UInt8 := cmpL l.length ++ l.flatMap W
def manyR {α : Type} (R : Rd α) : Rd (List α) := mapR (·.2) (thenR numR (listR R))
theorem Good.many {α : Type} {W : α → List UInt8} {R : Rd α} {V : α → Prop} (h : Good W R V) : Good (manyB W) (manyR R) (fun l => l.length ≤ 40 ∧ ∀ x ∈ l, V x) :=
  (good_num.then_ (fun n _ => h.list n)).map (·.2) (fun l => (l.length, l)) (fun _ _ => rfl) (fun a v => by obtain ⟨n, l⟩ := a; exact Prod.ext v.2.1 rfl) (fun _ v => ⟨v.1, rfl, v.2⟩) (fun a v => ⟨by rw [v.2.1]; exact v.1, v.2.2⟩)
def ancR (n : Nat) : Rd K32 := if n = 0 then fun s => .ok (zeroKey, s) else keyR
theorem good_anc (n : Nat) : Good (fun k : K32 => if n = 0 then [] else k.1) (ancR n) (fun k => n = 0 → k = zeroKey) := by
  by_cases hn : n = 0
  · subst hn
    exact { fwd := fun a rest v => by rw [v rfl]; rfl
            bwd := fun s a r e => by
              simp only [ancR, if_true, Except.ok.injEq, Prod.mk.injEq] at e
              exact ⟨fun _ => e.1.symm, by simp [e.2]⟩
            cut := fun a i _ hi => by simp at hi }
  · have h : (fun k : K32 => if n = 0 then [] else k.1) = (fun k : K32 => k.1) := funext fun k => if_neg hn
    rw [h]
    unfold ancR
    rw [if_neg hn]
    exact { fwd := fun a rest _ => good_key.fwd a rest trivial
            bwd := fun s a r e => ⟨fun q => absurd q hn, (good_key.bwd s a r e).2⟩
            cut := fun a i _ hi => good_key.cut a i trivial hi }
/-- nullifiers, the anchor ahead of them -/
def nullB (p : K32 × List K32) : List UInt8 := cmpL p.2.length ++ ((if p.2.length = 0 then [] else p.1.1) ++ p.2.flatMap (·.1))
def nullR : Rd (K32 × List K32) := mapR (·.2) (thenR numR (fun n => thenR (ancR n) (fun _ => listR keyR n)))
theorem good_null : Good nullB nullR (fun p => p.2.length ≤ 40 ∧ (p.2.length = 0 → p.1 = zeroKey)) :=
  (good_num.then_ (fun n _ => (good_anc n).then_ (fun _ _ => good_key.list n))).map (·.2) (fun p => (p.2.length, p)) (fun _ _ => rfl)
    (fun a v => by obtain ⟨n, p⟩ := a; exact Prod.ext v.2.2.1 rfl) (fun _ v => ⟨v.1, v.2, rfl, fun _ _ => trivial⟩) (fun a v => ⟨by rw [v.2.2.1]; exact v.1, by rw [v.2.2.1]; exact v.2.1⟩)
def OkTx (T : TxV) : Prop := T.ins.length ≤ 40 ∧ T.outs.length ≤ 40 ∧ T.nulls.length ≤ 40 ∧ T.notes.length ≤ 40 ∧ (T.nulls.length = 0 → T.anchor = zeroKey)
def txB (T : TxV) : List UInt8 := putL T.exp.1.toNat 4 ++ (manyB ptB T.ins ++ (manyB outB T.outs ++ (nullB (T.anchor, T.nulls) ++ (manyB (·.1) T.notes ++ putL (ofI64 T.bal) 8))))
abbrev TxP := IntV .u32 × List (K32 × IntV .u32) × List (IntV .i64 × K32) × (K32 × List K32) × List K32 × IntV .i64
def toTx (p : TxP) : TxV := ⟨p.1, p.2.1, p.2.2.1, p.2.2.2.1.1, p.2.2.2.1.2, p.2.2.2.2.1, p.2.2.2.2.2⟩
def ofTx (T : TxV) : TxP := (T.exp, T.ins, T.outs, (T.anchor, T.nulls), T.notes, T.bal)
def txR : Rd TxV := mapR toTx (thenR u32R fun _ => thenR (manyR ptR) fun _ => thenR (manyR outR) fun _ => thenR nullR fun _ => thenR (manyR keyR) fun _ => i64R)
theorem good_tx : Good txB txR OkTx := by
  have h := good_u32.then_ fun _ _ => good_pt.many.then_ fun _ _ => good_out.many.then_ fun _ _ => good_null.then_ fun _ _ => good_key.many.then_ fun _ _ => good_i64
  exact h.map (V' := OkTx) toTx ofTx (fun _ _ => rfl) (fun _ _ => rfl)
    (fun T v => ⟨trivial, ⟨v.1, fun _ _ => ⟨trivial, trivial⟩⟩, ⟨v.2.1, fun _ _ => ⟨trivial, trivial⟩⟩, ⟨v.2.2.1, v.2.2.2.2⟩, ⟨v.2.2.2.1, fun _ _ => trivial⟩, trivial⟩)
    (fun p v => ⟨v.2.1.1, v.2.2.1.1, v.2.2.2.1.1, v.2.2.2.2.1.1, v.2.2.2.1.2⟩)
theorem ptB_len (p : K32 × IntV .u32) : (ptB p).length = 36 := by unfold ptB; rw [List.length_append, p.1.2, putL_len]
theorem outB_len (p : IntV .i64 × K32) : (outB p).length = 40 := by unfold outB; rw [List.length_append, p.2.2, putL_len]
theorem flat_len {α : Type} (W : α → List UInt8) (k : Nat) (h : ∀ x, (W x).length = k) : ∀ l : List α, (l.flatMap W).length = k * l.length
  | [] => by simp
  | a :: l => by rw [List.flatMap_cons, List.length_append, h, flat_len W k h l, List.length_cons, Nat.mul_add, Nat.mul_one, Nat.add_comm]
theorem cmpL_small (n : Nat) (h : n ≤ 40) : (cmpL n).length = 1 := by unfold cmpL; rw [if_pos (by omega), putL_len]
theorem txB_len (T : TxV) (h : OkTx T) : (txB T).length = 4 + 1 + 36 * T.ins.length + 1 + 40 * T.outs.length + 1 + 32 * T.nulls.length + 1 + 32 * T.notes.length + 8 + (if 0 < T.nulls.length then 32 else 0) := by
  obtain ⟨h1, h2, h3, h4, _⟩ := h
  unfold txB manyB nullB
  simp only [List.length_append, putL_len, cmpL_small _ h1, cmpL_small _ h2, cmpL_small _ h3, cmpL_small _ h4, flat_len ptB 36 ptB_len, flat_len outB 40 outB_len, flat_len (fun k : K32 => k.1) 32 (fun k => k.2)]
  by_cases h0 : T.nulls.length = 0
  · rw [if_pos h0, if_neg (by omega)]; simp; omega
  · rw [if_neg h0, if_pos (by omega), T.anchor.2]; omega
/-- two transactions have the same bytes if they are the same, and else not -/
theorem txB_inj {T U : TxV} (hT : OkTx T) (hU : OkTx U) (h : txB T = txB U) : T = U := by
  have h1 := good_tx.fwd T [] hT
  rw [h, good_tx.fwd U [] hU] at h1
  injection h1 with h1
  injection h1 with h1
  exact h1.symm
theorem txR_many (b : UInt8) (rest : List UInt8) (h1 : 40 < b.toNat) (h2 : b.toNat < 253) : txR (0 :: 0 :: 0 :: 0 :: b :: rest) = .error 51 := by
  have hg : getR 4 (0 :: 0 :: 0 :: 0 :: b :: rest) = .ok (getN [0, 0, 0, 0], b :: rest) := by
    unfold getR
    rw [if_neg (by simp)]
    rfl
  have hn : numR (b :: rest) = .error 51 := by
    unfold numR
    have hr : readF (b :: rest) = (b.toNat, rest, 0) := by simp [readF, h2]
    rw [hr]
    simp only [if_true]
    rw [if_pos h1]
  simp only [txR, mapR, thenR, u32R, hg, manyR, hn]
/-- what Encode answers -/
def encF (T : TxV) : List UInt8 × Int :=
  if 40 < T.ins.length ∨ 40 < T.outs.length ∨ 40 < T.nulls.length ∨ 40 < T.notes.length then ([], 51) else if T.nulls.length = 0 ∧ T.anchor ≠ zeroKey then ([], 1) else (txB T, 0)
theorem encF_ok (T : TxV) (h : OkTx T) : encF T = (txB T, 0) := by
  obtain ⟨h1, h2, h3, h4, h5⟩ := h
  unfold encF
  rw [if_neg (by omega), if_neg (fun q => q.2 (h5 q.1))]
theorem encF_cases (T : TxV) : (OkTx T ∧ encF T = (txB T, 0)) ∨ encF T = ([], 51) ∨ encF T = ([], 1) := by
  by_cases h : 40 < T.ins.length ∨ 40 < T.outs.length ∨ 40 < T.nulls.length ∨ 40 < T.notes.length
  · exact .inr (.inl (by unfold encF; rw [if_pos h]))
  by_cases h' : T.nulls.length = 0 ∧ T.anchor ≠ zeroKey
  · exact .inr (.inr (by unfold encF; rw [if_neg h, if_pos h']))
  · refine .inl ⟨⟨by omega, by omega, by omega, by omega, fun q => Classical.byContradiction fun e => h' ⟨q, e⟩⟩, by unfold encF; rw [if_neg h, if_neg h']⟩
/-- the transaction of nothing -/
def noTx : TxV := ⟨toU32 0, [], [], zeroKey, [], [], toI64 0⟩
/-- what Read answers -/
def readTx (s : List UInt8) : TxV × List UInt8 × Int := match txR s with
  | .error e => (noTx, [], e)
  | .ok (T, r) => (T, r, 0)
/-- what Decode answers -/
def decTx (s : List UInt8) : TxV × Int := match txR s with
  | .error e => (noTx, e)
  | .ok (T, r) => if r = [] then (T, 0) else (noTx, 50)
theorem readTx_put (T : TxV) (rest : List UInt8) (h : OkTx T) : readTx (txB T ++ rest) = (T, rest, 0) := by unfold readTx; rw [good_tx.fwd T rest h]
theorem decTx_put (T : TxV) (h : OkTx T) : decTx (txB T) = (T, 0) := by
  unfold decTx
  have := good_tx.fwd T [] h
  rw [List.append_nil] at this
  rw [this]
  rfl
theorem decTx_more (T : TxV) (h : OkTx T) (b : UInt8) : decTx (txB T ++ [b]) = (noTx, 50) := by
  unfold decTx
  rw [good_tx.fwd T [b] h]
  rfl
theorem decTx_cut (T : TxV) (h : OkTx T) (i : Nat) (hi : i < (txB T).length) : decTx ((txB T).take i) = (noTx, 30) := by unfold decTx; rw [good_tx.cut T i h hi]
/-- an error of reading is none of 0 -/
theorem getR_err {wd : Nat} {s : List UInt8} {e : Int} (h : getR wd s = .error e) : e = 30 := by
  unfold getR at h
  split at h
  · injection h with h; exact h.symm
  · cases h
theorem decTx_ok (s : List UInt8) (T : TxV) (h : txR s = .ok (T, [])) : OkTx T ∧ txB T = s := by
  obtain ⟨h1, h2⟩ := good_tx.bwd _ _ _ h
  exact ⟨h1, by rw [h2, List.append_nil]⟩
/-- whether all of them is the same -/
def sameF (T U : TxV) : Bool := decide (T.exp = U.exp) && decide (T.ins = U.ins) && decide (T.outs = U.outs) && decide (T.anchor = U.anchor) && decide (T.nulls = U.nulls) && decide (T.notes = U.notes) && decide (T.bal = U.bal)
theorem sameF_iff (T U : TxV) : sameF T U = true ↔ T = U := by
  unfold sameF
  simp only [Bool.and_eq_true, decide_eq_true_iff]
  constructor
  · rintro ⟨⟨⟨⟨⟨⟨h1, h2⟩, h3⟩, h4⟩, h5⟩, h6⟩, h7⟩
    cases T; cases U
    simp only at h1 h2 h3 h4 h5 h6 h7
    subst h1 h2 h3 h4 h5 h6 h7
    rfl
  · rintro rfl
    exact ⟨⟨⟨⟨⟨⟨rfl, rfl⟩, rfl⟩, rfl⟩, rfl⟩, rfl⟩, rfl⟩
theorem txB_same {T U : TxV} (hT : OkTx T) (hU : OkTx U) : decide (txB T = txB U) = sameF T U := by
  rw [Bool.eq_iff_iff, decide_eq_true_iff, sameF_iff]
  exact ⟨txB_inj hT hU, fun h => h ▸ rfl⟩
/-- every error is an error -/
def Errs {α : Type} (R : Rd α) : Prop := ∀ s e, R s = .error e → e = 30 ∨ e = 31 ∨ e = 51
theorem Errs.then_ {α β : Type} {R1 : Rd α} {R2 : α → Rd β} (h1 : Errs R1) (h2 : ∀ a, Errs (R2 a)) : Errs (thenR R1 R2) := by
  intro s e h
  unfold thenR at h
  split at h
  · rename_i e1 q; injection h with h; subst h; exact h1 _ _ q
  · split at h
    · rename_i e1 q; injection h with h; subst h; exact h2 _ _ _ q
    · cases h
theorem Errs.map {α β : Type} {f : α → β} {R : Rd α} (h1 : Errs R) : Errs (mapR f R) := by
  intro s e h
  unfold mapR at h
  split at h
  · rename_i e1 q; injection h with h; subst h; exact h1 _ _ q
  · cases h
theorem Errs.list {α : Type} {R : Rd α} (h : Errs R) : ∀ n, Errs (listR R n)
  | 0 => fun s e q => by simp [listR] at q
  | n + 1 => (Errs.then_ h (fun _ => Errs.list h n)).map
theorem errs_get (wd : Nat) : Errs (getR wd) := fun _ _ h => Or.inl (getR_err h)
theorem errs_key : Errs keyR := fun s e h => by
  unfold keyR at h
  split at h
  · injection h with h; exact Or.inl h.symm
  · cases h
theorem errs_num : Errs numR := fun s e h => by
  unfold numR at h
  rcases readF_cases s with ⟨n, r, h1, _, _⟩ | h1 | h1
  · rw [h1] at h
    simp only [if_true] at h
    split at h
    · injection h with h; exact Or.inr (Or.inr h.symm)
    · cases h
  · rw [h1] at h
    simp at h
    exact Or.inl h.symm
  · rw [h1] at h
    simp at h
    exact Or.inr (Or.inl h.symm)
theorem errs_anc (n : Nat) : Errs (ancR n) := by
  unfold ancR
  split
  · intro s e h; cases h
  · exact errs_key
theorem errs_many {α : Type} {R : Rd α} (h : Errs R) : Errs (manyR R) := (errs_num.then_ (fun n => h.list n)).map
theorem errs_tx : Errs txR :=
  ((errs_get 4).map.then_ fun _ => (errs_many (errs_key.then_ fun _ => (errs_get 4).map)).then_ fun _ => (errs_many ((errs_get 8).map.then_ fun _ => errs_key)).then_ fun _ =>
    (errs_num.then_ fun n => (errs_anc n).then_ fun _ => errs_key.list n).map.then_ fun _ => (errs_many errs_key).then_ fun _ => (errs_get 8).map).map
end Go.Proofs.Ytimhophelecmjaa
/- tx: the bytes of a number, an amount, a point, an out, a count. -/
namespace Go.Proofs.Ytimhophelecmjaa
open Go.RowKit
theorem tyPt : RowTy Try.prog 25 43 (encKI .u32) 33 := ⟨Try.underlying25, by kernel_rfl, encKI_len _, encKI_one _, Try.isAgg43, by omega⟩
theorem tyOut : RowTy Try.prog 26 37 (encIK .i64) 33 := ⟨Try.underlying26, by kernel_rfl, encIK_len _, encIK_one _, Try.isAgg37, by omega⟩
theorem key_info : (Try.prog.info? 24).map (·.size) = some 32 := by kernel_rfl
end Go.Proofs.Ytimhophelecmjaa
/- tx.join at its three types. Written by genJoin.py. -/
namespace Go.Proofs.Ytimhophelecmjaa
open Go.RowKit
def keyB (k : K32) : List UInt8 := k.1
theorem keyB_len (k : K32) : (keyB k).length = 32 := k.2
theorem byteCells_app (a b : List UInt8) : Lib.byteCells a ++ Lib.byteCells b = Lib.byteCells (a ++ b) := by unfold Lib.byteCells; rw [List.map_append]
theorem bcells_len (l : List UInt8) : (Lib.byteCells l).length = l.length := by simp [Lib.byteCells]
theorem mkb_size (l : List UInt8) : (ByteArray.mk l.toArray).size = l.length := by simp [ByteArray.size]
theorem len_bound {a b m n : Nat} (h : a ≤ m * n) (h2 : b ≤ 40) (hm : m ≤ 40) (hn : n ≤ 1000) : a + b ≤ 140737488355328 := by have := Nat.mul_le_mul hm hn; omega
theorem flat_take_succ {α : Type} (W : α → List UInt8) (l : List α) (k : Nat) (h : k < l.length) : (l.take k).flatMap W ++ W l[k] = (l.take (k + 1)).flatMap W := by
  rw [List.take_succ_eq_append_getElem h, List.flatMap_append]; simp
theorem flat_take_le {α : Type} (W : α → List UInt8) (m : Nat) (hm : ∀ x, (W x).length = m) (l : List α) (k : Nat) : ((l.take k).flatMap W).length ≤ m * l.length := by
  rw [flat_len W m hm]
  exact Nat.mul_le_mul_left m (by rw [List.length_take]; omega)
theorem own_below {w w' : World} {B e size n : Nat} {v : Value} {xs : List Value} (h : w.ownsRow B e size v n xs) (hb : Below w.heap.size w w') : w'.ownsRow B e size v n xs := by
  refine ⟨h.1, ?_⟩
  rcases h.2 with hn | ⟨g, cap, cur, rfl, hg, hgg, rest⟩
  · exact .inl hn
  · exact .inr ⟨g, cap, cur, rfl, hg, by rw [hb.block g (Array.getElem?_eq_some_iff.1 hgg).1]; exact hgg, rest⟩
theorem bldAt_below {T e : TypeId} {B b : Nat} {p : Value} {bs : List Value} {w w' : World} (h : Lib.BuilderAt T e B b p bs w) (hb : Below w.heap.size w w') : Lib.BuilderAt T e B b p bs w' := by
  obtain ⟨hB, v, hbk, hown, hne⟩ := h
  exact ⟨hB, v, by rw [hb.block b (Array.getElem?_eq_some_iff.1 hbk).1]; exact hbk, own_below hown hb, hne⟩
theorem bld_below {T e : TypeId} {B b : Nat} {bs : List Value} {w w' : World} (h : Lib.IsBuilder T e B b bs w) (hb : Below w.heap.size w w') : Lib.IsBuilder T e B b bs w' :=
  h.elim (fun x => .inl (bldAt_below x hb)) (fun x => .inr (bldAt_below x hb))
theorem bld_fresh (w : World) (T e : TypeId) {W : World} (hW : W = w.alloc (.cells #[.pointer none, .slice none 0 0] T)) : Lib.IsBuilder T e w.heap.size w.heap.size [] W :=
  hW ▸ .inl ⟨Nat.le_refl _, .slice none 0 0, Blk.new w T _, World.ownsRow_nil _ _ _ _, by simp [Value.ownBlock]⟩
end Go.Proofs.Ytimhophelecmjaa
/- tx.Encode. Written by genE.py. -/
namespace Go.Proofs.Ytimhophelecmjaa
open Go.RowKit
def encV (r : List UInt8 × Int) : Value := .tuple #[.string ⟨r.1.toArray⟩, .int .i64 r.2]
theorem run_max4 {P : Program} (ts : Array TypeId) (t : TypeId) (a b c d : Nat) (w : World) :
    (Builtin.max_ ts t #[.int .i64 a, .int .i64 b, .int .i64 c, .int .i64 d]).run P w = .ok (.int .i64 ((max a (max b (max c d)) : Nat) : Int)) w := by
  have h : ∀ x y : Nat, (if x < y then (y : Int) else (x : Int)) = ((max x y : Nat) : Int) := fun x y => by split <;> omega
  simp [Builtin.max_, Builtin.max2]
  simp only [h, Int.ofNat_lt]
  omega
theorem putL_one (n w : Nat) : (putL n w).length ≤ 100000 ↔ w ≤ 100000 := by rw [putL_len]
theorem cmpL_le (n : Nat) : (cmpL n).length ≤ 9 := by rw [cmpL_len]; unfold wdN; split <;> (try split) <;> (try split) <;> omega
theorem encF_arg (T : TxV) (hx : T.ins.length ≤ 40 ∧ T.outs.length ≤ 40 ∧ T.nulls.length ≤ 40 ∧ T.notes.length ≤ 40) (h0 : T.nulls.length = 0) (ha : T.anchor ≠ zeroKey) : encF T = ([], 1) := by
  unfold encF
  rw [if_neg (by omega), if_pos ⟨h0, ha⟩]
theorem encF_fit (T : TxV) (hx : T.ins.length ≤ 40 ∧ T.outs.length ≤ 40 ∧ T.nulls.length ≤ 40 ∧ T.notes.length ≤ 40) (ha : T.nulls.length = 0 → T.anchor = zeroKey) : encF T = (txB T, 0) := encF_ok T ⟨hx.1, hx.2.1, hx.2.2.1, hx.2.2.2, ha⟩
section
variable {T : TxV} {Ai Ao An At : Option Addr} {ci co cn ct : Nat}
end
end Go.Proofs.Ytimhophelecmjaa
/- What the statements of tx begin by: heavy, shown; tx.Coinbase. -/
namespace Go.Proofs.Ytimhophelecmjaa
open Go.RowKit
def heavyF (T : TxV) : Bool := decide (60 < T.ins.length ∨ 60 < T.outs.length ∨ 60 < T.nulls.length ∨ 60 < T.notes.length)
section
variable {T : TxV} {Ai Ao An At : Option Addr} {ci co cn ct : Nat}
def oneTx : TxV := ⟨toU32 1, [], [], zeroKey, [], [], toI64 0⟩
theorem encF_one : encF oneTx = ([1, 0, 0, 0, 0, 0, 0, 0, 0, 0, 0, 0, 0, 0, 0, 0], 0) := by decide +kernel
end
end Go.Proofs.Ytimhophelecmjaa
/- A transaction, with where its lists lie, as one thing; a type whose values have k cells: load and store. -/
namespace Go.Proofs.Ytimhophelecmjaa
open Go.RowKit
/-- a transaction, and where its lists lie -/
structure TxA where
  T : TxV
  Ai : Option Addr
  ci : Nat
  Ao : Option Addr
  co : Nat
  An : Option Addr
  cn : Nat
  At : Option Addr
  ct : Nat
def TxA.cells (a : TxA) : List Value := txCells a.T a.Ai a.ci a.Ao a.co a.An a.cn a.At a.ct
def TxA.In (w : World) (B : Nat) (a : TxA) : Prop := TxIn w B a.T a.Ai a.ci a.Ao a.co a.An a.cn a.At a.ct
theorem TxA.len (a : TxA) : a.cells.length = 38 := txCells_len
theorem TxA.one (a : TxA) : ∀ v ∈ a.cells, v.oneCell' = true := by
  intro v hv
  simp only [TxA.cells, txCells, List.mem_cons, List.mem_append, List.not_mem_nil, or_false] at hv
  rcases hv with rfl | rfl | rfl | h | rfl | rfl | rfl
  · rfl
  · rfl
  · rfl
  · exact encK_one _ v h
  · rfl
  · rfl
  · rfl
theorem tyTx : CellTy Try.prog 29 TxA.cells 38 := ⟨by kernel_rfl, TxA.len, TxA.one, Try.isAgg29⟩
theorem TxA.In.below {w w' : World} {B : Nat} {a : TxA} (h : a.In w B) (hb : Below B w w') : a.In w' B := TxIn.below h hb
theorem TxA.In.more {w : World} {B B' : Nat} {a : TxA} (h : a.In w B) (hB : B ≤ B') : a.In w B' := TxIn.more h hB
/-- in every world behind it lies as it did -/
theorem TxA.In.on {w w' : World} {B : Nat} {a : TxA} (h : a.In w B) (hb : Below B w w') (hB : B ≤ w.heap.size) : a.In w' w'.heap.size := (h.below hb).more (Nat.le_trans hB hb.size)
section
variable {w : World} {g : Nat} {a : TxA}
theorem TxA.c0 (h : RowC w g 0 a.cells) : w.cell? ⟨g, 0, none⟩ = some (.int .u32 a.T.exp.1) := tx_exp h
theorem TxA.c1 (h : RowC w g 0 a.cells) : w.cell? ⟨g, 1, none⟩ = some (.slice a.Ai a.T.ins.length a.ci) := by have := tx_ins h; rwa [Nat.zero_add] at this
theorem TxA.c2 (h : RowC w g 0 a.cells) : w.cell? ⟨g, 2, none⟩ = some (.slice a.Ao a.T.outs.length a.co) := by have := tx_outs h; rwa [Nat.zero_add] at this
theorem TxA.c3 (h : RowC w g 0 a.cells) : RowC w g 3 (encK a.T.anchor) := by have := tx_anchor h; rwa [Nat.zero_add] at this
theorem TxA.c4 (h : RowC w g 0 a.cells) : w.cell? ⟨g, 35, none⟩ = some (.slice a.An a.T.nulls.length a.cn) := by have := tx_nulls h; rwa [Nat.zero_add] at this
theorem TxA.c5 (h : RowC w g 0 a.cells) : w.cell? ⟨g, 36, none⟩ = some (.slice a.At a.T.notes.length a.ct) := by have := tx_notes h; rwa [Nat.zero_add] at this
theorem TxA.c6 (h : RowC w g 0 a.cells) : w.cell? ⟨g, 37, none⟩ = some (.int .i64 a.T.bal.1) := by have := tx_bal h; rwa [Nat.zero_add] at this
end
end Go.Proofs.Ytimhophelecmjaa
/- tx.Coinbase, and the document's. Written by genCoin.py. -/
namespace Go.Proofs.Ytimhophelecmjaa
open Go.RowKit
def coinF (T : TxV) : Bool := match T.ins with
  | [p] => decide (p.1 = zeroKey)
  | _ => false
theorem coinF_no (T : TxV) (h : T.ins.length ≠ 1) : coinF T = false := by
  unfold coinF
  split
  · rename_i p hp; rw [hp] at h; simp at h
  · rfl
theorem coinF_one (T : TxV) (h : T.ins.length = 1) : coinF T = decide ((T.ins[0]'(by omega)).1 = zeroKey) := by
  obtain ⟨q, hq⟩ := List.length_eq_one_iff.1 h
  simp [coinF, hq]
theorem refCoin_any (a : TxA) (w : World) (h : a.In w w.heap.size) :
    Calls Try.prog 6 #[.agg a.cells.toArray] w fun e w' => e = .returned (.bool (coinF a.T)) ∧ Below w.heap.size w w' := by
  have hb : RowC (w.alloc (.cells a.cells.toArray 29)) w.heap.size 0 a.cells := RowC.of_blk (Blk.new _ _ _)
  have c1 := TxA.c1 hb
  clear hb
  by_cases h1 : a.T.ins.length = 1
  · have hB : Below w.heap.size w (w.alloc (.cells a.cells.toArray 29)) := (Below.refl _ _).alloc (Nat.le_refl _) _
    obtain ⟨g, o, hA, hg, hc⟩ := (RowIn.below h.ins hB).at (encKI_len _) (i := 0) (by omega)
    rw [hA] at c1
    clear hA
    obtain ⟨p, hp⟩ : ∃ p, a.T.ins[0] = p := ⟨_, rfl⟩
    rw [hp] at hc
    have hcf : coinF a.T = decide (p.1 = zeroKey) := by rw [coinF_one _ h1, hp]
    rw [hcf]
    have hk : RowC (w.alloc (.cells a.cells.toArray 29)) g o (encK p.1) := by simpa using hc.ki_key
    have HK := Lib.hid hk
    have hd : (a.T.ins.length == 1) = true := by simpa using h1
    rw [h1] at c1
    clear hc hp hcf hk h1 hd h hB
    go_enter Try.func6, Try.ntmps6
    go_wp2_with (first
      | ((with_reducible refine at_loadg 11 ?_); refine tyKy.wpList_load (by rfl) (.tmp 11) rfl g o rfl p.1 HK.out ?_)
      | ((with_reducible refine at_eqlg 12 13 ?_); refine wpList_eql_rowg (by rfl) 24 24 (.tmp 12) (.tmp 13) rfl (encK p.1).toArray (encK zeroKey).toArray rfl (congrArg Value.agg lit32k) (by kernel_rfl) (decide (p.1 = zeroKey)) (fun V => eqKy_run _ _ V) ?_; simp only [Act.put, List.setIfInBounds_toArray, List.set_cons_succ, List.set_cons_zero]))
    go_ret
    exact ⟨rfl, (Below.refl _ _).alloc (Nat.le_refl _) _⟩
  · rw [coinF_no _ h1]
    have hd : ((a.T.ins.length : Int) == 1) = false := beq_eq_false_iff_ne.mpr (by omega)
    clear h1 h
    go_enter Try.func6, Try.ntmps6
    go_wp2
    go_ret
    exact ⟨rfl, (Below.refl _ _).alloc (Nat.le_refl _) _⟩
end Go.Proofs.Ytimhophelecmjaa
/- The document's Same. Written by genSame.py. -/
namespace Go.Proofs.Ytimhophelecmjaa
open Go.RowKit
theorem eqPt_run (x y : K32 × IntV .u32) (V : World) : (Op.equal 43 (.agg (encKI .u32 x).toArray) (.agg (encKI .u32 y).toArray)).run Try.prog V = .ok (decide (x = y)) V :=
  run_eq_KI (f0 := (Try.prog.fieldsOf 43)[0]!) (f1 := (Try.prog.fieldsOf 43)[1]!) V (by kernel_rfl) (by kernel_rfl) (by decide +kernel) (by decide +kernel) (by kernel_rfl) (by kernel_rfl) (by kernel_rfl) (by kernel_rfl) Try.underlying24 Try.underlying5 (by kernel_rfl) (by kernel_rfl) Try.underlying22 x y
theorem eqOut_run (x y : IntV .i64 × K32) (V : World) : (Op.equal 37 (.agg (encIK .i64 x).toArray) (.agg (encIK .i64 y).toArray)).run Try.prog V = .ok (decide (x = y)) V :=
  run_eq_IK (f0 := (Try.prog.fieldsOf 37)[0]!) (f1 := (Try.prog.fieldsOf 37)[1]!) V (by kernel_rfl) (by kernel_rfl) (by decide +kernel) (by decide +kernel) (by kernel_rfl) (by kernel_rfl) (by kernel_rfl) (by kernel_rfl) Try.underlying24 Try.underlying5 (by kernel_rfl) (by kernel_rfl) Try.underlying2 x y
theorem take_eq_succ {α : Type} {l m : List α} {j : Nat} (h : l.take j = m.take j) (h1 : j < l.length) (h2 : j < m.length) (he : l[j] = m[j]) : l.take (j + 1) = m.take (j + 1) := by
  rw [List.take_succ_eq_append_getElem h1, List.take_succ_eq_append_getElem h2, h, he]
theorem txv_ext {T U : TxV} (h1 : T.exp = U.exp) (h2 : T.ins = U.ins) (h3 : T.outs = U.outs) (h4 : T.anchor = U.anchor) (h5 : T.nulls = U.nulls) (h6 : T.notes = U.notes) (h7 : T.bal = U.bal) : T = U := by
  cases T; cases U
  simp only at h1 h2 h3 h4 h5 h6 h7
  subst h1 h2 h3 h4 h5 h6 h7
  rfl
theorem intv_ext {q : IntKind} {x y : IntV q} (h : x.1 = y.1) : x = y := Subtype.ext h
set_option maxRecDepth 20000 in
set_option maxHeartbeats 4000000 in
theorem refSame_any (a b : TxA) (w : World) (ha : a.In w w.heap.size) (hb : b.In w w.heap.size) :
    Calls Try.prog 8 #[.agg a.cells.toArray, .agg b.cells.toArray] w fun e w' => e = .returned (.bool (sameF a.T b.T)) ∧ Below w.heap.size w w' := by
  have hA : RowC ((w.alloc (.cells a.cells.toArray 29)).alloc (.cells b.cells.toArray 29)) w.heap.size 0 a.cells := RowC.of_blk ((Blk.new _ _ _).alloc _)
  have hB : RowC ((w.alloc (.cells a.cells.toArray 29)).alloc (.cells b.cells.toArray 29)) (w.heap.size + 1) 0 b.cells := RowC.of_blk (blk_new _ _ (by simp))
  have B0 : Below w.heap.size w ((w.alloc (.cells a.cells.toArray 29)).alloc (.cells b.cells.toArray 29)) := ((Below.refl _ _).alloc (Nat.le_refl _) _).alloc (by simp) _
  have a0 := TxA.c0 hA
  have a1 := TxA.c1 hA
  have a2 := TxA.c2 hA
  have a4 := TxA.c4 hA
  have a5 := TxA.c5 hA
  have a6 := TxA.c6 hA
  have b0 := TxA.c0 hB
  have b1 := TxA.c1 hB
  have b2 := TxA.c2 hB
  have b4 := TxA.c4 hB
  have b5 := TxA.c5 hB
  have b6 := TxA.c6 hB
  obtain ⟨r, hr⟩ : ∃ r, decide (a.T.anchor = b.T.anchor) = r := ⟨_, rfl⟩
  have hF : ∀ P : Prop, (a.T.exp.1 = b.T.exp.1 ∧ (a.T.ins.length : Int) = (b.T.ins.length : Int) ∧ (a.T.outs.length : Int) = (b.T.outs.length : Int) ∧ r = true ∧ (a.T.nulls.length : Int) = (b.T.nulls.length : Int) ∧ (a.T.notes.length : Int) = (b.T.notes.length : Int) ∧ (a.T.bal.1 != b.T.bal.1) = false → False) → Ending.returned (Value.bool false) = .returned (.bool (sameF a.T b.T)) := fun P h => by
    have : sameF a.T b.T = false := by
      cases hs : sameF a.T b.T with
      | false => rfl
      | true =>
        have e := (sameF_iff _ _).1 hs
        exact absurd ⟨by rw [e], by rw [e], by rw [e], by rw [← hr, e]; simp, by rw [e], by rw [e], by rw [e]; simp⟩ h
    rw [this]
  obtain ⟨s, hs⟩ : ∃ s, sameF a.T b.T = s := ⟨_, rfl⟩
  rw [hs] at hF ⊢
  have HS := Lib.hid hs
  have HF := Lib.hid (hF True)
  have KA := Lib.hid (TxA.c3 hA)
  have KB := Lib.hid (TxA.c3 hB)
  have HR := Lib.hid hr
  have HA := Lib.hid hA
  have HB := Lib.hid hB
  have HB0 := Lib.hid B0
  have IA := Lib.hid ha
  have IB := Lib.hid hb
  clear hA hB hr hF hs B0 ha hb
  go_enter Try.func8, Try.ntmps8
  go_wp2_with (first
    | ((with_reducible refine at_loadg 33 ?_); refine tyKy.wpList_load (by rfl) (.tmp 33) rfl w.heap.size 3 rfl a.T.anchor KA.out ?_)
    | ((with_reducible refine at_loadg 35 ?_); refine tyKy.wpList_load (by rfl) (.tmp 35) rfl (w.heap.size + 1) 3 rfl b.T.anchor KB.out ?_)
    | ((with_reducible refine at_neqlg 34 36 ?_); refine wpList_neq_rowg (by rfl) 24 24 (.tmp 34) (.tmp 36) rfl (encK a.T.anchor).toArray (encK b.T.anchor).toArray rfl rfl (by kernel_rfl) r (fun V => (eqKy_run _ _ V).trans (by rw [HR.out])) ?_; simp only [Act.put, List.setIfInBounds_toArray, List.set_cons_succ, List.set_cons_zero]))
  all_goals try (
    go_ret
    refine ⟨HF.out (fun h => ?_), HB0.out⟩
    obtain ⟨h1, h2, h3, h4, h5, h6, h7⟩ := h
    first | contradiction | exact absurd (h7.symm.trans ‹(a.T.bal.1 != b.T.bal.1) = true›) (by decide))
  rename_i q1 q2 q3 q4 q5 q6 q7 Kz Az
  have Q1 := Lib.hid q1
  have Q4 := Lib.hid q4
  have Q7 := Lib.hid q7
  have Q2 := Lib.hid q2
  have Q3 := Lib.hid q3
  have Q5 := Lib.hid q5
  have Q6 := Lib.hid q6
  clear q1 q2 q3 q4 q5 q6 q7 a0 a1 a2 a4 a5 a6 b0 b1 b2 b4 b5 b6
  have QL0 := Lib.hid (show a.T.ins.length = b.T.ins.length by have := Q2.out; omega)
  have QL1 := Lib.hid (show a.T.outs.length = b.T.outs.length by have := Q3.out; omega)
  have QL2 := Lib.hid (show a.T.nulls.length = b.T.nulls.length by have := Q5.out; omega)
  have QL3 := Lib.hid (show a.T.notes.length = b.T.notes.length by have := Q6.out; omega)
  have hm0 : a.T.ins.length ≤ 9223372036854775807 := by have h1 := IA.out.ins.le; have h2 := IA.out.ins.max; unfold maxLen at h2; omega
  go_loopw [5] (fun i wr => ∃ j : Nat, j ≤ a.T.ins.length ∧ i = .int .i64 j ∧ Hid (a.T.ins.take j = b.T.ins.take j ∧ Below ((w.alloc (.cells a.cells.toArray 29)).alloc (.cells b.cells.toArray 29)).heap.size ((w.alloc (.cells a.cells.toArray 29)).alloc (.cells b.cells.toArray 29)) wr)) (fun i _ => a.T.ins.length - (intOf i).toNat)
  case atStart => exact ⟨0, Nat.zero_le _, rfl, Lib.hid ⟨rfl, Below.refl _ _⟩⟩
  case round =>
    obtain ⟨j, hj, rfl, hx⟩ := hrel
    have cc := TxA.c1 (HA.out.below hx.out.2 (by simp; omega))
    by_cases hlt : j < a.T.ins.length
    · have hltb : j < b.T.ins.length := by have := QL0.out; omega
      have hin := IA.out.ins.below (HB0.out.trans (hx.out.2.mono HB0.out.size))
      have hinb := IB.out.ins.below (HB0.out.trans (hx.out.2.mono HB0.out.size))
      obtain ⟨g1, o1, e1, l1, rc1⟩ := hin.at (encKI_len _) hlt
      obtain ⟨g2, o2, e2, l2, rc2⟩ := hinb.at (encKI_len _) hltb
      have z0 := (HB0.out.trans (hx.out.2.mono HB0.out.size)).size
      have zr := hx.out.2.size
      have CA := Lib.hid (fun (w' : World) (hC : From wr w') => (show w'.cell? ⟨w.heap.size, 1, none⟩ = some (.slice (some ⟨g1, o1, none⟩) a.T.ins.length a.ci) by rw [← e1]; exact TxA.c1 ((HA.out.below hx.out.2 (by simp; omega)).below hC.below (by simp at zr; omega))))
      have CB := Lib.hid (fun (w' : World) (hC : From wr w') => (show w'.cell? ⟨w.heap.size + 1, 1, none⟩ = some (.slice (some ⟨g2, o2, none⟩) b.T.ins.length b.ci) by rw [← e2]; exact TxA.c1 ((HB.out.below hx.out.2 (by simp)).below hC.below (by simp at zr; omega))))
      have RA := Lib.hid (fun (w' : World) (hC : From wr w') => rc1.below hC.below (by omega))
      have RB := Lib.hid (fun (w' : World) (hC : From wr w') => rc2.below hC.below (by omega))
      clear hin hinb e1 e2 rc1 rc2 z0 zr
      go_wp2_with fail
      obtain ⟨q, hq⟩ : ∃ q, decide (a.T.ins[j] = b.T.ins[j]) = q := ⟨_, rfl⟩
      have HQ := Lib.hid hq
      clear hq
      refine wp_region_from (by kernel_rfl) (by kernel_rfl) ?_
      repeat (first
        | go_big_quiet_skip
        | ((with_reducible refine at_qload 71 ?_); refine wpQuiet_load_one (by rfl) 25 (.tmp 71) rfl ⟨w.heap.size, 1, none⟩ rfl _ Try.isAgg25 CA.out ?_; simp only [Act.put, List.setIfInBounds_toArray, List.set_cons_succ, List.set_cons_zero])
        | ((with_reducible refine at_qload 76 ?_); refine wpQuiet_load_one (by rfl) 25 (.tmp 76) rfl ⟨w.heap.size + 1, 1, none⟩ rfl _ Try.isAgg25 CB.out ?_; simp only [Act.put, List.setIfInBounds_toArray, List.set_cons_succ, List.set_cons_zero])
        | ((with_reducible refine at_qload 74 ?_); refine tyPt.wpQuiet_load (by rfl) (.tmp 74) rfl g1 (o1 + j * 33) rfl a.T.ins[j] RA.out ?_; simp only [Act.put, List.setIfInBounds_toArray, List.set_cons_succ, List.set_cons_zero])
        | ((with_reducible refine at_qload 79 ?_); refine tyPt.wpQuiet_load (by rfl) (.tmp 79) rfl g2 (o2 + j * 33) rfl b.T.ins[j] RB.out ?_; simp only [Act.put, List.setIfInBounds_toArray, List.set_cons_succ, List.set_cons_zero])
        | ((with_reducible refine at_qneq 75 80 ?_); refine wpQuiet_neq_row (by rfl) 43 43 (.tmp 75) (.tmp 80) rfl (encKI .u32 a.T.ins[j]).toArray (encKI .u32 b.T.ins[j]).toArray rfl rfl (by kernel_rfl) q (fun V => (eqPt_run _ _ V).trans (by rw [HQ.out])) ?_; simp only [Act.put, List.setIfInBounds_toArray, List.set_cons_succ, List.set_cons_zero])
        | (go_big_quiet_want; go_big_quiet_op; refine ⟨_, fun _ _ => by with_reducible rfl, ?_⟩; go_big_quiet_on)
        | go_big_quiet_step (fail))
      refine wpQuiet_nil ?_
      intro w9 hC
      have B9 := Lib.hid (hx.out.2.trans (hC.below.mono hx.out.2.size))
      clear hC CA CB RA RB
      cases q with
      | false =>
        have HE := Lib.hid (show s = false by
          cases hsv : s with
          | false => rfl
          | true =>
            have e := (sameF_iff _ _).1 (HS.out.trans hsv)
            have hn : a.T.ins[j] ≠ b.T.ins[j] := by simpa using HQ.out
            have hs2 : a.T.ins = b.T.ins := by rw [e]
            exact absurd (by simp only [hs2]) hn)
        go_wp2_with fail
        go_ret
        refine ⟨?_, HB0.out.trans (B9.out.mono HB0.out.size)⟩
        rw [HE.out]
        rfl
      | true =>
        go_wp2_with fail
        go_roundw
        case rel => exact ⟨j + 1, by omega, by go_num, Lib.hid ⟨take_eq_succ hx.out.1 hlt hltb (by simpa using HQ.out), B9.out⟩⟩
        case measure => simp [intOf]; omega
    · have HE0 := Lib.hid (show a.T.ins = b.T.ins by
        have h1 := hx.out.1
        have hjl : j = a.T.ins.length := by omega
        rw [List.take_of_length_le (by omega), List.take_of_length_le (by have := QL0.out; omega)] at h1
        exact h1)
      have bPrev := Lib.hid hx.out.2
      clear hx hj
      have hdd : decide ((j : Int) < a.T.ins.length) = false := by simp; omega
      go_wp2_with fail
      clear hdd hlt cc
      have hm1 : a.T.outs.length ≤ 9223372036854775807 := by have h1 := IA.out.outs.le; have h2 := IA.out.outs.max; unfold maxLen at h2; omega
      go_loopw [6] (fun i wr => ∃ j : Nat, j ≤ a.T.outs.length ∧ i = .int .i64 j ∧ Hid (a.T.outs.take j = b.T.outs.take j ∧ Below ((w.alloc (.cells a.cells.toArray 29)).alloc (.cells b.cells.toArray 29)).heap.size ((w.alloc (.cells a.cells.toArray 29)).alloc (.cells b.cells.toArray 29)) wr)) (fun i _ => a.T.outs.length - (intOf i).toNat)
      case atStart => exact ⟨0, Nat.zero_le _, rfl, Lib.hid ⟨rfl, bPrev.out⟩⟩
      case round =>
        obtain ⟨j, hj, rfl, hx⟩ := hrel
        clear bPrev
        have cc := TxA.c2 (HA.out.below hx.out.2 (by simp; omega))
        by_cases hlt : j < a.T.outs.length
        · have hltb : j < b.T.outs.length := by have := QL1.out; omega
          have hin := IA.out.outs.below (HB0.out.trans (hx.out.2.mono HB0.out.size))
          have hinb := IB.out.outs.below (HB0.out.trans (hx.out.2.mono HB0.out.size))
          obtain ⟨g1, o1, e1, l1, rc1⟩ := hin.at (encIK_len _) hlt
          obtain ⟨g2, o2, e2, l2, rc2⟩ := hinb.at (encIK_len _) hltb
          have z0 := (HB0.out.trans (hx.out.2.mono HB0.out.size)).size
          have zr := hx.out.2.size
          have CA := Lib.hid (fun (w' : World) (hC : From wr w') => (show w'.cell? ⟨w.heap.size, 2, none⟩ = some (.slice (some ⟨g1, o1, none⟩) a.T.outs.length a.co) by rw [← e1]; exact TxA.c2 ((HA.out.below hx.out.2 (by simp; omega)).below hC.below (by simp at zr; omega))))
          have CB := Lib.hid (fun (w' : World) (hC : From wr w') => (show w'.cell? ⟨w.heap.size + 1, 2, none⟩ = some (.slice (some ⟨g2, o2, none⟩) b.T.outs.length b.co) by rw [← e2]; exact TxA.c2 ((HB.out.below hx.out.2 (by simp)).below hC.below (by simp at zr; omega))))
          have RA := Lib.hid (fun (w' : World) (hC : From wr w') => rc1.below hC.below (by omega))
          have RB := Lib.hid (fun (w' : World) (hC : From wr w') => rc2.below hC.below (by omega))
          clear hin hinb e1 e2 rc1 rc2 z0 zr
          go_wp2_with fail
          obtain ⟨q, hq⟩ : ∃ q, decide (a.T.outs[j] = b.T.outs[j]) = q := ⟨_, rfl⟩
          have HQ := Lib.hid hq
          clear hq
          refine wp_region_from (by kernel_rfl) (by kernel_rfl) ?_
          repeat (first
            | go_big_quiet_skip
            | ((with_reducible refine at_qload 89 ?_); refine wpQuiet_load_one (by rfl) 26 (.tmp 89) rfl ⟨w.heap.size, 2, none⟩ rfl _ Try.isAgg26 CA.out ?_; simp only [Act.put, List.setIfInBounds_toArray, List.set_cons_succ, List.set_cons_zero])
            | ((with_reducible refine at_qload 94 ?_); refine wpQuiet_load_one (by rfl) 26 (.tmp 94) rfl ⟨w.heap.size + 1, 2, none⟩ rfl _ Try.isAgg26 CB.out ?_; simp only [Act.put, List.setIfInBounds_toArray, List.set_cons_succ, List.set_cons_zero])
            | ((with_reducible refine at_qload 92 ?_); refine tyOut.wpQuiet_load (by rfl) (.tmp 92) rfl g1 (o1 + j * 33) rfl a.T.outs[j] RA.out ?_; simp only [Act.put, List.setIfInBounds_toArray, List.set_cons_succ, List.set_cons_zero])
            | ((with_reducible refine at_qload 97 ?_); refine tyOut.wpQuiet_load (by rfl) (.tmp 97) rfl g2 (o2 + j * 33) rfl b.T.outs[j] RB.out ?_; simp only [Act.put, List.setIfInBounds_toArray, List.set_cons_succ, List.set_cons_zero])
            | ((with_reducible refine at_qneq 93 98 ?_); refine wpQuiet_neq_row (by rfl) 37 37 (.tmp 93) (.tmp 98) rfl (encIK .i64 a.T.outs[j]).toArray (encIK .i64 b.T.outs[j]).toArray rfl rfl (by kernel_rfl) q (fun V => (eqOut_run _ _ V).trans (by rw [HQ.out])) ?_; simp only [Act.put, List.setIfInBounds_toArray, List.set_cons_succ, List.set_cons_zero])
            | (go_big_quiet_want; go_big_quiet_op; refine ⟨_, fun _ _ => by with_reducible rfl, ?_⟩; go_big_quiet_on)
            | go_big_quiet_step (fail))
          refine wpQuiet_nil ?_
          intro w9 hC
          have B9 := Lib.hid (hx.out.2.trans (hC.below.mono hx.out.2.size))
          clear hC CA CB RA RB
          cases q with
          | false =>
            have HE := Lib.hid (show s = false by
              cases hsv : s with
              | false => rfl
              | true =>
                have e := (sameF_iff _ _).1 (HS.out.trans hsv)
                have hn : a.T.outs[j] ≠ b.T.outs[j] := by simpa using HQ.out
                have hs2 : a.T.outs = b.T.outs := by rw [e]
                exact absurd (by simp only [hs2]) hn)
            go_wp2_with fail
            go_ret
            refine ⟨?_, HB0.out.trans (B9.out.mono HB0.out.size)⟩
            rw [HE.out]
            rfl
          | true =>
            go_wp2_with fail
            go_roundw
            case rel => exact ⟨j + 1, by omega, by go_num, Lib.hid ⟨take_eq_succ hx.out.1 hlt hltb (by simpa using HQ.out), B9.out⟩⟩
            case measure => simp [intOf]; omega
        · have HE1 := Lib.hid (show a.T.outs = b.T.outs by
            have h1 := hx.out.1
            have hjl : j = a.T.outs.length := by omega
            rw [List.take_of_length_le (by omega), List.take_of_length_le (by have := QL1.out; omega)] at h1
            exact h1)
          have bPrev := Lib.hid hx.out.2
          clear hx hj
          have hdd : decide ((j : Int) < a.T.outs.length) = false := by simp; omega
          go_wp2_with fail
          clear hdd hlt cc
          have hm2 : a.T.nulls.length ≤ 9223372036854775807 := by have h1 := IA.out.nulls.le; have h2 := IA.out.nulls.max; unfold maxLen at h2; omega
          go_loopw [7] (fun i wr => ∃ j : Nat, j ≤ a.T.nulls.length ∧ i = .int .i64 j ∧ Hid (a.T.nulls.take j = b.T.nulls.take j ∧ Below ((w.alloc (.cells a.cells.toArray 29)).alloc (.cells b.cells.toArray 29)).heap.size ((w.alloc (.cells a.cells.toArray 29)).alloc (.cells b.cells.toArray 29)) wr)) (fun i _ => a.T.nulls.length - (intOf i).toNat)
          case atStart => exact ⟨0, Nat.zero_le _, rfl, Lib.hid ⟨rfl, bPrev.out⟩⟩
          case round =>
            obtain ⟨j, hj, rfl, hx⟩ := hrel
            clear bPrev
            have cc := TxA.c4 (HA.out.below hx.out.2 (by simp; omega))
            by_cases hlt : j < a.T.nulls.length
            · have hltb : j < b.T.nulls.length := by have := QL2.out; omega
              have hin := IA.out.nulls.below (HB0.out.trans (hx.out.2.mono HB0.out.size))
              have hinb := IB.out.nulls.below (HB0.out.trans (hx.out.2.mono HB0.out.size))
              obtain ⟨g1, o1, e1, l1, rc1⟩ := hin.at (encK_len) hlt
              obtain ⟨g2, o2, e2, l2, rc2⟩ := hinb.at (encK_len) hltb
              have z0 := (HB0.out.trans (hx.out.2.mono HB0.out.size)).size
              have zr := hx.out.2.size
              have CA := Lib.hid (fun (w' : World) (hC : From wr w') => (show w'.cell? ⟨w.heap.size, 35, none⟩ = some (.slice (some ⟨g1, o1, none⟩) a.T.nulls.length a.cn) by rw [← e1]; exact TxA.c4 ((HA.out.below hx.out.2 (by simp; omega)).below hC.below (by simp at zr; omega))))
              have CB := Lib.hid (fun (w' : World) (hC : From wr w') => (show w'.cell? ⟨w.heap.size + 1, 35, none⟩ = some (.slice (some ⟨g2, o2, none⟩) b.T.nulls.length b.cn) by rw [← e2]; exact TxA.c4 ((HB.out.below hx.out.2 (by simp)).below hC.below (by simp at zr; omega))))
              have RA := Lib.hid (fun (w' : World) (hC : From wr w') => rc1.below hC.below (by omega))
              have RB := Lib.hid (fun (w' : World) (hC : From wr w') => rc2.below hC.below (by omega))
              clear hin hinb e1 e2 rc1 rc2 z0 zr
              go_wp2_with fail
              obtain ⟨q, hq⟩ : ∃ q, decide (a.T.nulls[j] = b.T.nulls[j]) = q := ⟨_, rfl⟩
              have HQ := Lib.hid hq
              clear hq
              refine wp_region_from (by kernel_rfl) (by kernel_rfl) ?_
              repeat (first
                | go_big_quiet_skip
                | ((with_reducible refine at_qload 107 ?_); refine wpQuiet_load_one (by rfl) 27 (.tmp 107) rfl ⟨w.heap.size, 35, none⟩ rfl _ Try.isAgg27 CA.out ?_; simp only [Act.put, List.setIfInBounds_toArray, List.set_cons_succ, List.set_cons_zero])
                | ((with_reducible refine at_qload 112 ?_); refine wpQuiet_load_one (by rfl) 27 (.tmp 112) rfl ⟨w.heap.size + 1, 35, none⟩ rfl _ Try.isAgg27 CB.out ?_; simp only [Act.put, List.setIfInBounds_toArray, List.set_cons_succ, List.set_cons_zero])
                | ((with_reducible refine at_qload 110 ?_); refine tyKy.wpQuiet_load (by rfl) (.tmp 110) rfl g1 (o1 + j * 32) rfl a.T.nulls[j] RA.out ?_; simp only [Act.put, List.setIfInBounds_toArray, List.set_cons_succ, List.set_cons_zero])
                | ((with_reducible refine at_qload 115 ?_); refine tyKy.wpQuiet_load (by rfl) (.tmp 115) rfl g2 (o2 + j * 32) rfl b.T.nulls[j] RB.out ?_; simp only [Act.put, List.setIfInBounds_toArray, List.set_cons_succ, List.set_cons_zero])
                | ((with_reducible refine at_qneq 111 116 ?_); refine wpQuiet_neq_row (by rfl) 24 24 (.tmp 111) (.tmp 116) rfl (encK a.T.nulls[j]).toArray (encK b.T.nulls[j]).toArray rfl rfl (by kernel_rfl) q (fun V => (eqKy_run _ _ V).trans (by rw [HQ.out])) ?_; simp only [Act.put, List.setIfInBounds_toArray, List.set_cons_succ, List.set_cons_zero])
                | (go_big_quiet_want; go_big_quiet_op; refine ⟨_, fun _ _ => by with_reducible rfl, ?_⟩; go_big_quiet_on)
                | go_big_quiet_step (fail))
              refine wpQuiet_nil ?_
              intro w9 hC
              have B9 := Lib.hid (hx.out.2.trans (hC.below.mono hx.out.2.size))
              clear hC CA CB RA RB
              cases q with
              | false =>
                have HE := Lib.hid (show s = false by
                  cases hsv : s with
                  | false => rfl
                  | true =>
                    have e := (sameF_iff _ _).1 (HS.out.trans hsv)
                    have hn : a.T.nulls[j] ≠ b.T.nulls[j] := by simpa using HQ.out
                    have hs2 : a.T.nulls = b.T.nulls := by rw [e]
                    exact absurd (by simp only [hs2]) hn)
                go_wp2_with fail
                go_ret
                refine ⟨?_, HB0.out.trans (B9.out.mono HB0.out.size)⟩
                rw [HE.out]
                rfl
              | true =>
                go_wp2_with fail
                go_roundw
                case rel => exact ⟨j + 1, by omega, by go_num, Lib.hid ⟨take_eq_succ hx.out.1 hlt hltb (by simpa using HQ.out), B9.out⟩⟩
                case measure => simp [intOf]; omega
            · have HE2 := Lib.hid (show a.T.nulls = b.T.nulls by
                have h1 := hx.out.1
                have hjl : j = a.T.nulls.length := by omega
                rw [List.take_of_length_le (by omega), List.take_of_length_le (by have := QL2.out; omega)] at h1
                exact h1)
              have bPrev := Lib.hid hx.out.2
              clear hx hj
              have hdd : decide ((j : Int) < a.T.nulls.length) = false := by simp; omega
              go_wp2_with fail
              clear hdd hlt cc
              have hm3 : a.T.notes.length ≤ 9223372036854775807 := by have h1 := IA.out.notes.le; have h2 := IA.out.notes.max; unfold maxLen at h2; omega
              go_loopw [8] (fun i wr => ∃ j : Nat, j ≤ a.T.notes.length ∧ i = .int .i64 j ∧ Hid (a.T.notes.take j = b.T.notes.take j ∧ Below ((w.alloc (.cells a.cells.toArray 29)).alloc (.cells b.cells.toArray 29)).heap.size ((w.alloc (.cells a.cells.toArray 29)).alloc (.cells b.cells.toArray 29)) wr)) (fun i _ => a.T.notes.length - (intOf i).toNat)
              case atStart => exact ⟨0, Nat.zero_le _, rfl, Lib.hid ⟨rfl, bPrev.out⟩⟩
              case round =>
                obtain ⟨j, hj, rfl, hx⟩ := hrel
                clear bPrev
                have cc := TxA.c5 (HA.out.below hx.out.2 (by simp; omega))
                by_cases hlt : j < a.T.notes.length
                · have hltb : j < b.T.notes.length := by have := QL3.out; omega
                  have hin := IA.out.notes.below (HB0.out.trans (hx.out.2.mono HB0.out.size))
                  have hinb := IB.out.notes.below (HB0.out.trans (hx.out.2.mono HB0.out.size))
                  obtain ⟨g1, o1, e1, l1, rc1⟩ := hin.at (encK_len) hlt
                  obtain ⟨g2, o2, e2, l2, rc2⟩ := hinb.at (encK_len) hltb
                  have z0 := (HB0.out.trans (hx.out.2.mono HB0.out.size)).size
                  have zr := hx.out.2.size
                  have CA := Lib.hid (fun (w' : World) (hC : From wr w') => (show w'.cell? ⟨w.heap.size, 36, none⟩ = some (.slice (some ⟨g1, o1, none⟩) a.T.notes.length a.ct) by rw [← e1]; exact TxA.c5 ((HA.out.below hx.out.2 (by simp; omega)).below hC.below (by simp at zr; omega))))
                  have CB := Lib.hid (fun (w' : World) (hC : From wr w') => (show w'.cell? ⟨w.heap.size + 1, 36, none⟩ = some (.slice (some ⟨g2, o2, none⟩) b.T.notes.length b.ct) by rw [← e2]; exact TxA.c5 ((HB.out.below hx.out.2 (by simp)).below hC.below (by simp at zr; omega))))
                  have RA := Lib.hid (fun (w' : World) (hC : From wr w') => rc1.below hC.below (by omega))
                  have RB := Lib.hid (fun (w' : World) (hC : From wr w') => rc2.below hC.below (by omega))
                  clear hin hinb e1 e2 rc1 rc2 z0 zr
                  go_wp2_with fail
                  obtain ⟨q, hq⟩ : ∃ q, decide (a.T.notes[j] = b.T.notes[j]) = q := ⟨_, rfl⟩
                  have HQ := Lib.hid hq
                  clear hq
                  refine wp_region_from (by kernel_rfl) (by kernel_rfl) ?_
                  repeat (first
                    | go_big_quiet_skip
                    | ((with_reducible refine at_qload 125 ?_); refine wpQuiet_load_one (by rfl) 27 (.tmp 125) rfl ⟨w.heap.size, 36, none⟩ rfl _ Try.isAgg27 CA.out ?_; simp only [Act.put, List.setIfInBounds_toArray, List.set_cons_succ, List.set_cons_zero])
                    | ((with_reducible refine at_qload 130 ?_); refine wpQuiet_load_one (by rfl) 27 (.tmp 130) rfl ⟨w.heap.size + 1, 36, none⟩ rfl _ Try.isAgg27 CB.out ?_; simp only [Act.put, List.setIfInBounds_toArray, List.set_cons_succ, List.set_cons_zero])
                    | ((with_reducible refine at_qload 128 ?_); refine tyKy.wpQuiet_load (by rfl) (.tmp 128) rfl g1 (o1 + j * 32) rfl a.T.notes[j] RA.out ?_; simp only [Act.put, List.setIfInBounds_toArray, List.set_cons_succ, List.set_cons_zero])
                    | ((with_reducible refine at_qload 133 ?_); refine tyKy.wpQuiet_load (by rfl) (.tmp 133) rfl g2 (o2 + j * 32) rfl b.T.notes[j] RB.out ?_; simp only [Act.put, List.setIfInBounds_toArray, List.set_cons_succ, List.set_cons_zero])
                    | ((with_reducible refine at_qneq 129 134 ?_); refine wpQuiet_neq_row (by rfl) 24 24 (.tmp 129) (.tmp 134) rfl (encK a.T.notes[j]).toArray (encK b.T.notes[j]).toArray rfl rfl (by kernel_rfl) q (fun V => (eqKy_run _ _ V).trans (by rw [HQ.out])) ?_; simp only [Act.put, List.setIfInBounds_toArray, List.set_cons_succ, List.set_cons_zero])
                    | (go_big_quiet_want; go_big_quiet_op; refine ⟨_, fun _ _ => by with_reducible rfl, ?_⟩; go_big_quiet_on)
                    | go_big_quiet_step (fail))
                  refine wpQuiet_nil ?_
                  intro w9 hC
                  have B9 := Lib.hid (hx.out.2.trans (hC.below.mono hx.out.2.size))
                  clear hC CA CB RA RB
                  cases q with
                  | false =>
                    have HE := Lib.hid (show s = false by
                      cases hsv : s with
                      | false => rfl
                      | true =>
                        have e := (sameF_iff _ _).1 (HS.out.trans hsv)
                        have hn : a.T.notes[j] ≠ b.T.notes[j] := by simpa using HQ.out
                        have hs2 : a.T.notes = b.T.notes := by rw [e]
                        exact absurd (by simp only [hs2]) hn)
                    go_wp2_with fail
                    go_ret
                    refine ⟨?_, HB0.out.trans (B9.out.mono HB0.out.size)⟩
                    rw [HE.out]
                    rfl
                  | true =>
                    go_wp2_with fail
                    go_roundw
                    case rel => exact ⟨j + 1, by omega, by go_num, Lib.hid ⟨take_eq_succ hx.out.1 hlt hltb (by simpa using HQ.out), B9.out⟩⟩
                    case measure => simp [intOf]; omega
                · have HE3 := Lib.hid (show a.T.notes = b.T.notes by
                    have h1 := hx.out.1
                    have hjl : j = a.T.notes.length := by omega
                    rw [List.take_of_length_le (by omega), List.take_of_length_le (by have := QL3.out; omega)] at h1
                    exact h1)
                  have bPrev := Lib.hid hx.out.2
                  clear hx hj
                  have hdd : decide ((j : Int) < a.T.notes.length) = false := by simp; omega
                  go_wp2_with fail
                  go_ret
                  refine ⟨?_, HB0.out.trans (bPrev.out.mono HB0.out.size)⟩
                  have e1 := intv_ext Q1.out
                  have e4 : a.T.anchor = b.T.anchor := by simpa using HR.out.trans Q4.out
                  have e7 := intv_ext (show a.T.bal.1 = b.T.bal.1 by simpa using Q7.out)
                  have hst : s = true := HS.out.symm.trans ((sameF_iff _ _).2 (txv_ext e1 HE0.out HE1.out e4 HE2.out HE3.out e7))
                  rw [hst]
                  rfl
end Go.Proofs.Ytimhophelecmjaa
