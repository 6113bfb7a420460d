/- Plain: a transaction's bytes, read and written. -/
import Derived.Test.YthpnmmilioonhaaTxP
namespace Go.Proofs.Ythpnmmilioonhaa
theorem wf_u32 {z : Int} : (Lit.int .u32 z).wf = true ↔ 0 ≤ z ∧ z < 4294967296 := by
  simp [Lit.wf, IntKind.min, IntKind.max, IntKind.signed, IntKind.bits]
  omega
theorem wf_i64 {z : Int} : (Lit.int .i64 z).wf = true ↔ -9223372036854775808 ≤ z ∧ z < 9223372036854775808 := by
  simp [Lit.wf, IntKind.min, IntKind.max, IntKind.signed, IntKind.bits]
  omega
def toU32 (n : Nat) : IntV .u32 := ⟨((n % 4294967296 : Nat) : Int), wf_u32.2 (by omega)⟩
def toI64 (n : Nat) : IntV .i64 := ⟨if n % 18446744073709551616 < 9223372036854775808 then ((n % 18446744073709551616 : Nat) : Int) else ((n % 18446744073709551616 : Nat) : Int) - 18446744073709551616, wf_i64.2 (by split <;> omega)⟩
def ofI64 (z : IntV .i64) : Nat := (z.1 % 18446744073709551616).toNat
def u32R : Rd (IntV .u32) := mapR toU32 (getR 4)
def i64R : Rd (IntV .i64) := mapR toI64 (getR 8)
theorem good_u32 : Good (fun z : IntV .u32 => putL z.1.toNat 4) u32R (fun _ => True) :=
  (good_get 4).map toU32 (fun z => z.1.toNat)
    (fun z _ => Subtype.ext (by have := wf_u32.1 z.2; show ((z.1.toNat % 4294967296 : Nat) : Int) = z.1; omega))
    (fun n h => by show (((n % 4294967296 : Nat) : Int)).toNat = n; have : n < 4294967296 := h; omega)
    (fun z _ => by have := wf_u32.1 z.2; show z.1.toNat < 4294967296; omega) (fun _ _ => trivial)
theorem good_i64 : Good (fun z : IntV .i64 => putL (ofI64 z) 8) i64R (fun _ => True) :=
  (good_get 8).map toI64 ofI64
    (fun z _ => Subtype.ext (by
      have := wf_i64.1 z.2
      show (if ofI64 z % 18446744073709551616 < 9223372036854775808 then ((ofI64 z % 18446744073709551616 : Nat) : Int) else ((ofI64 z % 18446744073709551616 : Nat) : Int) - 18446744073709551616) = z.1
      unfold ofI64
      split <;> omega))
    (fun n h => by
      have h' : n < 18446744073709551616 := h
      unfold ofI64 toI64
      simp only
      split <;> omega)
    (fun z _ => by show ofI64 z < 18446744073709551616; unfold ofI64; omega) (fun _ _ => trivial)
def ptB (p : K32 × IntV .u32) : List UInt8 := p.1.1 ++ putL p.2.1.toNat 4
def outB (p : IntV .i64 × K32) : List UInt8 := putL (ofI64 p.1) 8 ++ p.2.1
def ptR : Rd (K32 × IntV .u32) := thenR keyR (fun _ => u32R)
def outR : Rd (IntV .i64 × K32) := thenR i64R (fun _ => keyR)
theorem good_pt : Good ptB ptR (fun _ => True ∧ True) := good_key.then_ (fun _ _ => good_u32)
theorem good_out : Good outB outR (fun _ => True ∧ True) := good_i64.then_ (fun _ _ => good_key)
/-- how many there are, and each -/
def manyB {α : Type} (W : α → List UInt8) (l : List α) : List UInt8 := cmpL l.length ++ l.flatMap W
def manyR {α : Type} (R : Rd α) : Rd (List α) := mapR (·.2) (thenR numR (listR R))
theorem Good.many {α : Type} {W : α → List UInt8} {R : Rd α} {V : α → Prop} (h : Good W R V) : Good (manyB W) (manyR R) (fun l => l.length ≤ 40 ∧ ∀ x ∈ l, V x) :=
  (good_num.then_ (fun n _ => h.list n)).map (·.2) (fun l => (l.length, l)) (fun _ _ => rfl) (fun a v => by obtain ⟨n, l⟩ := a; exact Prod.ext v.2.1 rfl) (fun _ v => ⟨v.1, rfl, v.2⟩) (fun a v => ⟨by rw [v.2.1]; exact v.1, v.2.2⟩)
def zeroKey : K32 := ⟨List.replicate 32 0, by simp⟩
def ancR (n : Nat) : Rd K32 := if n = 0 then fun s => .ok (zeroKey, s) else keyR
theorem good_anc (n : Nat) : Good (fun k : K32 => if n = 0 then [] else k.1) (ancR n) (fun k => n = 0 → k = zeroKey) := by
  by_cases hn : n = 0
  · subst hn
    exact { fwd := fun a rest v => by rw [v rfl]; rfl
            bwd := fun s a r e => by
              simp only [ancR, if_true, Except.ok.injEq, Prod.mk.injEq] at e
              exact ⟨fun _ => e.1.symm, by simp [e.2]⟩
            cut := fun a i _ hi => by simp at hi }
  · have h : (fun k : K32 => if n = 0 then [] else k.1) = (fun k : K32 => k.1) := funext fun k => if_neg hn
    rw [h]
    unfold ancR
    rw [if_neg hn]
    exact { fwd := fun a rest _ => good_key.fwd a rest trivial
            bwd := fun s a r e => ⟨fun q => absurd q hn, (good_key.bwd s a r e).2⟩
            cut := fun a i _ hi => good_key.cut a i trivial hi }
/-- nullifiers, the anchor ahead of them -/
def nullB (p : K32 × List K32) : List UInt8 := cmpL p.2.length ++ ((if p.2.length = 0 then [] else p.1.1) ++ p.2.flatMap (·.1))
def nullR : Rd (K32 × List K32) := mapR (·.2) (thenR numR (fun n => thenR (ancR n) (fun _ => listR keyR n)))
theorem good_null : Good nullB nullR (fun p => p.2.length ≤ 40 ∧ (p.2.length = 0 → p.1 = zeroKey)) :=
  (good_num.then_ (fun n _ => (good_anc n).then_ (fun _ _ => good_key.list n))).map (·.2) (fun p => (p.2.length, p)) (fun _ _ => rfl)
    (fun a v => by obtain ⟨n, p⟩ := a; exact Prod.ext v.2.2.1 rfl) (fun _ v => ⟨v.1, v.2, rfl, fun _ _ => trivial⟩) (fun a v => ⟨by rw [v.2.2.1]; exact v.1, by rw [v.2.2.1]; exact v.2.1⟩)
def OkTx (T : TxV) : Prop := T.ins.length ≤ 40 ∧ T.outs.length ≤ 40 ∧ T.nulls.length ≤ 40 ∧ T.notes.length ≤ 40 ∧ (T.nulls.length = 0 → T.anchor = zeroKey)
def txB (T : TxV) : List UInt8 := putL T.exp.1.toNat 4 ++ (manyB ptB T.ins ++ (manyB outB T.outs ++ (nullB (T.anchor, T.nulls) ++ (manyB (·.1) T.notes ++ putL (ofI64 T.bal) 8))))
abbrev TxP := IntV .u32 × List (K32 × IntV .u32) × List (IntV .i64 × K32) × (K32 × List K32) × List K32 × IntV .i64
def toTx (p : TxP) : TxV := ⟨p.1, p.2.1, p.2.2.1, p.2.2.2.1.1, p.2.2.2.1.2, p.2.2.2.2.1, p.2.2.2.2.2⟩
def ofTx (T : TxV) : TxP := (T.exp, T.ins, T.outs, (T.anchor, T.nulls), T.notes, T.bal)
def txR : Rd TxV := mapR toTx (thenR u32R fun _ => thenR (manyR ptR) fun _ => thenR (manyR outR) fun _ => thenR nullR fun _ => thenR (manyR keyR) fun _ => i64R)
theorem good_tx : Good txB txR OkTx := by
  have h := good_u32.then_ fun _ _ => good_pt.many.then_ fun _ _ => good_out.many.then_ fun _ _ => good_null.then_ fun _ _ => good_key.many.then_ fun _ _ => good_i64
  exact h.map (V' := OkTx) toTx ofTx (fun _ _ => rfl) (fun _ _ => rfl)
    (fun T v => ⟨trivial, ⟨v.1, fun _ _ => ⟨trivial, trivial⟩⟩, ⟨v.2.1, fun _ _ => ⟨trivial, trivial⟩⟩, ⟨v.2.2.1, v.2.2.2.2⟩, ⟨v.2.2.2.1, fun _ _ => trivial⟩, trivial⟩)
    (fun p v => ⟨v.2.1.1, v.2.2.1.1, v.2.2.2.1.1, v.2.2.2.2.1.1, v.2.2.2.1.2⟩)
theorem ptB_len (p : K32 × IntV .u32) : (ptB p).length = 36 := by unfold ptB; rw [List.length_append, p.1.2, putL_len]
theorem outB_len (p : IntV .i64 × K32) : (outB p).length = 40 := by unfold outB; rw [List.length_append, p.2.2, putL_len]
theorem flat_len {α : Type} (W : α → List UInt8) (k : Nat) (h : ∀ x, (W x).length = k) : ∀ l : List α, (l.flatMap W).length = k * l.length
  | [] => by simp
  | a :: l => by rw [List.flatMap_cons, List.length_append, h, flat_len W k h l, List.length_cons, Nat.mul_add, Nat.mul_one, Nat.add_comm]
theorem cmpL_small (n : Nat) (h : n ≤ 40) : (cmpL n).length = 1 := by unfold cmpL; rw [if_pos (by omega), putL_len]
theorem txB_len (T : TxV) (h : OkTx T) : (txB T).length = 4 + 1 + 36 * T.ins.length + 1 + 40 * T.outs.length + 1 + 32 * T.nulls.length + 1 + 32 * T.notes.length + 8 + (if 0 < T.nulls.length then 32 else 0) := by
  obtain ⟨h1, h2, h3, h4, _⟩ := h
  unfold txB manyB nullB
  simp only [List.length_append, putL_len, cmpL_small _ h1, cmpL_small _ h2, cmpL_small _ h3, cmpL_small _ h4, flat_len ptB 36 ptB_len, flat_len outB 40 outB_len, flat_len (fun k : K32 => k.1) 32 (fun k => k.2)]
  by_cases h0 : T.nulls.length = 0
  · rw [if_pos h0, if_neg (by omega)]; simp; omega
  · rw [if_neg h0, if_pos (by omega), T.anchor.2]; omega
/-- two transactions have the same bytes if they are the same, and else not -/
theorem txB_inj {T U : TxV} (hT : OkTx T) (hU : OkTx U) (h : txB T = txB U) : T = U := by
  have h1 := good_tx.fwd T [] hT
  rw [h, good_tx.fwd U [] hU] at h1
  injection h1 with h1
  injection h1 with h1
  exact h1.symm
theorem txR_many (b : UInt8) (rest : List UInt8) (h1 : 40 < b.toNat) (h2 : b.toNat < 253) : txR (0 :: 0 :: 0 :: 0 :: b :: rest) = .error 51 := by
  have hg : getR 4 (0 :: 0 :: 0 :: 0 :: b :: rest) = .ok (getN [0, 0, 0, 0], b :: rest) := by
    unfold getR
    rw [if_neg (by simp)]
    rfl
  have hn : numR (b :: rest) = .error 51 := by
    unfold numR
    have hr : readF (b :: rest) = (b.toNat, rest, 0) := by simp [readF, h2]
    rw [hr]
    simp only [if_true]
    rw [if_pos h1]
  simp only [txR, mapR, thenR, u32R, hg, manyR, hn]
/-- what Encode answers -/
def encF (T : TxV) : List UInt8 × Int :=
  if 40 < T.ins.length ∨ 40 < T.outs.length ∨ 40 < T.nulls.length ∨ 40 < T.notes.length then ([], 51) else if T.nulls.length = 0 ∧ T.anchor ≠ zeroKey then ([], 1) else (txB T, 0)
theorem encF_ok (T : TxV) (h : OkTx T) : encF T = (txB T, 0) := by
  obtain ⟨h1, h2, h3, h4, h5⟩ := h
  unfold encF
  rw [if_neg (by omega), if_neg (fun q => q.2 (h5 q.1))]
theorem encF_cases (T : TxV) : (OkTx T ∧ encF T = (txB T, 0)) ∨ encF T = ([], 51) ∨ encF T = ([], 1) := by
  by_cases h : 40 < T.ins.length ∨ 40 < T.outs.length ∨ 40 < T.nulls.length ∨ 40 < T.notes.length
  · exact .inr (.inl (by unfold encF; rw [if_pos h]))
  by_cases h' : T.nulls.length = 0 ∧ T.anchor ≠ zeroKey
  · exact .inr (.inr (by unfold encF; rw [if_neg h, if_pos h']))
  · refine .inl ⟨⟨by omega, by omega, by omega, by omega, fun q => Classical.byContradiction fun e => h' ⟨q, e⟩⟩, by unfold encF; rw [if_neg h, if_neg h']⟩
/-- the transaction of nothing -/
def noTx : TxV := ⟨toU32 0, [], [], zeroKey, [], [], toI64 0⟩
/-- what Read answers -/
def readTx (s : List UInt8) : TxV × List UInt8 × Int := match txR s with
  | .error e => (noTx, [], e)
  | .ok (T, r) => (T, r, 0)
/-- what Decode answers -/
def decTx (s : List UInt8) : TxV × Int := match txR s with
  | .error e => (noTx, e)
  | .ok (T, r) => if r = [] then (T, 0) else (noTx, 50)
theorem readTx_put (T : TxV) (rest : List UInt8) (h : OkTx T) : readTx (txB T ++ rest) = (T, rest, 0) := by unfold readTx; rw [good_tx.fwd T rest h]
theorem decTx_put (T : TxV) (h : OkTx T) : decTx (txB T) = (T, 0) := by
  unfold decTx
  have := good_tx.fwd T [] h
  rw [List.append_nil] at this
  rw [this]
  rfl
theorem decTx_more (T : TxV) (h : OkTx T) (b : UInt8) : decTx (txB T ++ [b]) = (noTx, 50) := by
  unfold decTx
  rw [good_tx.fwd T [b] h]
  rfl
theorem decTx_cut (T : TxV) (h : OkTx T) (i : Nat) (hi : i < (txB T).length) : decTx ((txB T).take i) = (noTx, 30) := by unfold decTx; rw [good_tx.cut T i h hi]
/-- an error of reading is none of 0 -/
theorem getR_err {wd : Nat} {s : List UInt8} {e : Int} (h : getR wd s = .error e) : e = 30 := by
  unfold getR at h
  split at h
  · injection h with h; exact h.symm
  · cases h
theorem decTx_ok (s : List UInt8) (T : TxV) (h : txR s = .ok (T, [])) : OkTx T ∧ txB T = s := by
  obtain ⟨h1, h2⟩ := good_tx.bwd _ _ _ h
  exact ⟨h1, by rw [h2, List.append_nil]⟩
/-- whether all of them is the same -/
def sameF (T U : TxV) : Bool := decide (T.exp = U.exp) && decide (T.ins = U.ins) && decide (T.outs = U.outs) && decide (T.anchor = U.anchor) && decide (T.nulls = U.nulls) && decide (T.notes = U.notes) && decide (T.bal = U.bal)
theorem sameF_iff (T U : TxV) : sameF T U = true ↔ T = U := by
  unfold sameF
  simp only [Bool.and_eq_true, decide_eq_true_iff]
  constructor
  · rintro ⟨⟨⟨⟨⟨⟨h1, h2⟩, h3⟩, h4⟩, h5⟩, h6⟩, h7⟩
    cases T; cases U
    simp only at h1 h2 h3 h4 h5 h6 h7
    subst h1 h2 h3 h4 h5 h6 h7
    rfl
  · rintro rfl
    exact ⟨⟨⟨⟨⟨⟨rfl, rfl⟩, rfl⟩, rfl⟩, rfl⟩, rfl⟩, rfl⟩
theorem txB_same {T U : TxV} (hT : OkTx T) (hU : OkTx U) : decide (txB T = txB U) = sameF T U := by
  rw [Bool.eq_iff_iff, decide_eq_true_iff, sameF_iff]
  exact ⟨txB_inj hT hU, fun h => h ▸ rfl⟩
/-- every error is an error -/
def Errs {α : Type} (R : Rd α) : Prop := ∀ s e, R s = .error e → e = 30 ∨ e = 31 ∨ e = 51
theorem Errs.then_ {α β : Type} {R1 : Rd α} {R2 : α → Rd β} (h1 : Errs R1) (h2 : ∀ a, Errs (R2 a)) : Errs (thenR R1 R2) := by
  intro s e h
  unfold thenR at h
  split at h
  · rename_i e1 q; injection h with h; subst h; exact h1 _ _ q
  · split at h
    · rename_i e1 q; injection h with h; subst h; exact h2 _ _ _ q
    · cases h
theorem Errs.map {α β : Type} {f : α → β} {R : Rd α} (h1 : Errs R) : Errs (mapR f R) := by
  intro s e h
  unfold mapR at h
  split at h
  · rename_i e1 q; injection h with h; subst h; exact h1 _ _ q
  · cases h
theorem Errs.list {α : Type} {R : Rd α} (h : Errs R) : ∀ n, Errs (listR R n)
  | 0 => fun s e q => by simp [listR] at q
  | n + 1 => (Errs.then_ h (fun _ => Errs.list h n)).map
theorem errs_get (wd : Nat) : Errs (getR wd) := fun _ _ h => Or.inl (getR_err h)
theorem errs_key : Errs keyR := fun s e h => by
  unfold keyR at h
  split at h
  · injection h with h; exact Or.inl h.symm
  · cases h
theorem errs_num : Errs numR := fun s e h => by
  unfold numR at h
  rcases readF_cases s with ⟨n, r, h1, _, _⟩ | h1 | h1
  · rw [h1] at h
    simp only [if_true] at h
    split at h
    · injection h with h; exact Or.inr (Or.inr h.symm)
    · cases h
  · rw [h1] at h
    simp at h
    exact Or.inl h.symm
  · rw [h1] at h
    simp at h
    exact Or.inr (Or.inl h.symm)
theorem errs_anc (n : Nat) : Errs (ancR n) := by
  unfold ancR
  split
  · intro s e h; cases h
  · exact errs_key
theorem errs_many {α : Type} {R : Rd α} (h : Errs R) : Errs (manyR R) := (errs_num.then_ (fun n => h.list n)).map
theorem errs_tx : Errs txR :=
  ((errs_get 4).map.then_ fun _ => (errs_many (errs_key.then_ fun _ => (errs_get 4).map)).then_ fun _ => (errs_many ((errs_get 8).map.then_ fun _ => errs_key)).then_ fun _ =>
    (errs_num.then_ fun n => (errs_anc n).then_ fun _ => errs_key.list n).map.then_ fun _ => (errs_many errs_key).then_ fun _ => (errs_get 8).map).map
end Go.Proofs.Ythpnmmilioonhaa
