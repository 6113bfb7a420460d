import Derived.Test.YtnpmpeoojncjhaaGreatDoorZQa
set_option maxRecDepth 100000
set_option maxHeartbeats 16000000
namespace Go.Proofs.YtnpmpeoojncjhaaGreatDoor
section
abbrev Rd (α : Type) := List UInt8 → Except Int (α × List UInt8)
structure Good {α : Type} (W : α → List UInt8) (R : Rd α) (V : α → Prop) : Prop where
 fwd : ∀ a rest, V a → R (W a ++ rest) = .ok (a, rest)
 bwd : ∀ s a r, R s = .ok (a, r) → V a ∧ s = W a ++ r
 cut : ∀ a i, V a → i < (W a).length → R ((W a).take i) = .error 30
def bT {α β : Type} (R1 : Rd α) (R2 : α → Rd β) : Rd (α × β) := fun s =>
 match R1 s with
 | .error e => .error e
 | .ok (a, r) => match R2 a r with
  | .error e => .error e
  | .ok (b, r') => .ok ((a, b), r')
theorem Good.fZ {α β : Type} {W1 : α → List UInt8} {R1 : Rd α} {V1 : α → Prop} {W2 : α → β → List UInt8} {R2 : α → Rd β} {V2 : α → β → Prop} (h1 : Good W1 R1 V1) (h2 : ∀ a, V1 a → Good (W2 a) (R2 a) (V2 a)) :
 Good (fun p : α × β => W1 p.1 ++ W2 p.1 p.2) (bT R1 R2) (fun p => V1 p.1 ∧ V2 p.1 p.2) where
 fwd := by
  rintro ⟨a, b⟩ rest ⟨v1, v2⟩
  simp only [bT, List.append_assoc, h1.fwd a _ v1, (h2 a v1).fwd b _ v2]
 bwd := by
  rintro s ⟨a, b⟩ r h
  unfold bT at h
  split at h
  ·cases h
  ·rename_i a' r1 e1
   split at h
   ·cases h
   ·rename_i b' r2 e2
    injection h with h
    injection h with h3 h4
    injection h3 with h5 h6
    subst h5 h6 h4
    obtain ⟨v1, rfl⟩ := h1.bwd _ _ _ e1
    obtain ⟨v2, rfl⟩ := (h2 _ v1).bwd _ _ _ e2
    exact ⟨⟨v1, v2⟩, by rw [List.append_assoc]⟩
 cut := by
  rintro ⟨a, b⟩ i ⟨v1, v2⟩ hi
  simp only [List.length_append] at hi
  simp only [bT]
  by_cases hl : i < (W1 a).length
  ·rw [List.take_append_of_le_length (Nat.le_of_lt hl), h1.cut a i v1 hl]
  ·rw [List.take_append, List.take_of_length_le (by omega), h1.fwd a _ v1]
   simp only
   rw [(h2 a v1).cut b (i - (W1 a).length) v2 (by omega)]
def fK {α β : Type} (f : α → β) (R : Rd α) : Rd β := fun s =>
 match R s with
 | .error e => .error e
 | .ok (a, r) => .ok (f a, r)
theorem Good.map {α β : Type} {W : α → List UInt8} {R : Rd α} {V : α → Prop} (h : Good W R V) (f : α → β) (g : β → α) {V' : β → Prop} (hfg : ∀ b, V' b → f (g b) = b) (hgf : ∀ a, V a → g (f a) = a) (hv : ∀ b, V' b → V (g b)) (hv' : ∀ a, V a → V' (f a)) :
 Good (fun b => W (g b)) (fK f R) V' where
 fwd := fun b rest v => by simp only [fK, h.fwd (g b) rest (hv b v), hfg b v]
 bwd := by
  intro s b r e
  unfold fK at e
  split at e
  ·cases e
  ·rename_i a r1 e1
   injection e with e
   injection e with e2 e3
   subst e2 e3
   obtain ⟨v, rfl⟩ := h.bwd _ _ _ e1
   exact ⟨hv' a v, by rw [hgf a v]⟩
 cut := fun b i v hi => by simp only [fK, h.cut (g b) i (hv b v) hi]
def dw {α : Type} (R : Rd α) : Nat → Rd (List α)
 | 0 => fun s => .ok ([], s)
 | n + 1 => fK (fun p : α × List α => p.1 :: p.2) (bT R (fun _ => dw R n))
theorem Good.list {α : Type} {W : α → List UInt8} {R : Rd α} {V : α → Prop} (h : Good W R V) : ∀ n, Good (fun l : List α => l.flatMap W) (dw R n) (fun l => l.length = n ∧ ∀ x ∈ l, V x)
 | 0 => {
  fwd := fun a rest v => by
   obtain rfl : a = [] := List.length_eq_zero_iff.1 v.1
   rfl
  bwd := fun s a r e => by
   simp only [dw, Except.ok.injEq, Prod.mk.injEq] at e
   obtain ⟨rfl, rfl⟩ := e
   exact ⟨⟨rfl, by simp⟩, rfl⟩
  cut := fun a i v hi => by
   obtain rfl : a = [] := List.length_eq_zero_iff.1 v.1
   simp at hi }
 | n + 1 => {
  fwd := fun a rest v => by
   match a, v with
   | x :: l, v =>
    have v2 : l.length = n ∧ ∀ y ∈ l, V y := ⟨by simpa using v.1, fun y hy => v.2 y (List.mem_cons_of_mem _ hy)⟩
    have h1 := (Good.fZ h (fun _ _ => Good.list h n)).fwd (x, l) rest ⟨v.2 x (by simp), v2⟩
    simp only [dw, fK, List.flatMap_cons, h1]
  bwd := fun s a r e => by
   simp only [dw] at e
   unfold fK at e
   split at e
   ·cases e
   ·rename_i p r1 e1
    injection e with e
    injection e with e2 e3
    subst e2 e3
    obtain ⟨⟨v1, v2⟩, rfl⟩ := (Good.fZ h (fun _ _ => Good.list h n)).bwd _ _ _ e1
    exact ⟨⟨by simp [v2.1], fun y hy => (List.mem_cons.1 hy).elim (fun q => q ▸ v1) (v2.2 y)⟩, by rw [List.flatMap_cons]⟩
  cut := fun a i v hi => by
   match a, v with
   | x :: l, v =>
    have v2 : l.length = n ∧ ∀ y ∈ l, V y := ⟨by simpa using v.1, fun y hy => v.2 y (List.mem_cons_of_mem _ hy)⟩
    have h1 := (Good.fZ h (fun _ _ => Good.list h n)).cut (x, l) i ⟨v.2 x (by simp), v2⟩ (by simpa using hi)
    simp only [dw, fK, List.flatMap_cons, h1] }
def jC (wd : Nat) : Rd Nat := fun s => if s.length < wd then .error 30 else .ok (bO (s.take wd), s.drop wd)
theorem nL (wd : Nat) : Good (fun n => bD n wd) (jC wd) (fun n => n < 2 ^ (8 * wd)) where
 fwd := fun n rest v => by
  have hl := bQ n wd
  unfold jC
  rw [if_neg (by rw [List.length_append]; omega), List.take_append_of_le_length (by omega), List.take_of_length_le (by omega), List.drop_append_of_le_length (by omega), List.drop_of_length_le (by omega), AU, Nat.mod_eq_of_lt v]
  rfl
 bwd := fun s a r e => by
  unfold jC at e
  split at e
  ·cases e
  ·rename_i hl
   injection e with e
   injection e with e2 e3
   subst e2 e3
   have ht : (s.take wd).length = wd := by rw [List.length_take]; omega
   refine ⟨?_, ?_⟩
   ·have := jP (s.take wd)
    rwa [ht] at this
   ·have := Am (s.take wd)
    rw [ht] at this
    rw [this, List.take_append_drop]
 cut := fun n i _ hi => by
  rw [bQ] at hi
  unfold jC
  rw [if_pos (by rw [List.length_take, bQ]; omega)]
def gD : Rd aS := fun s => if h : s.length < 32 then .error 30 else .ok (⟨s.take 32, by rw [List.length_take]; omega⟩, s.drop 32)
theorem dn : Good (fun k : aS => k.1) gD (fun _ => True) where
 fwd := fun k rest _ => by
  have hl := k.2
  unfold gD
  rw [dif_neg (by rw [List.length_append]; omega)]
  congr 2
  ·apply Subtype.ext
   show (k.1 ++ rest).take 32 = k.1
   rw [List.take_append_of_le_length (by omega), List.take_of_length_le (by omega)]
  ·rw [List.drop_append_of_le_length (by omega), List.drop_of_length_le (by omega)]; rfl
 bwd := fun s a r e => by
  unfold gD at e
  split at e
  ·cases e
  ·injection e with e
   injection e with e2 e3
   subst e2 e3
   exact ⟨trivial, by simp⟩
 cut := fun k i _ hi => by
  rw [k.2] at hi
  unfold gD
  rw [dif_pos (by rw [List.length_take, k.2]; omega)]
def nJ : Rd Nat := fun s => match fH s with
 | (n, r, e) => if e = 0 then (if 40 < n then .error 51 else .ok (n, r)) else .error e
theorem gV : Good cmpL nJ (fun n => n ≤ 40) where
 fwd := fun n rest v => by
  unfold nJ
  rw [Ah n rest (by omega)]
  simp only [if_true]
  rw [if_neg (by omega)]
 bwd := fun s a r e => by
  unfold nJ at e
  rcases mG s with ⟨n, r', h1, h2, _⟩ | h1 | h1
  ·rw [h1] at e
   simp only [if_true] at e
   split at e
   ·cases e
   ·rename_i hn
    injection e with e
    injection e with e2 e3
    subst e2 e3
    exact ⟨by omega, h2.symm⟩
  ·rw [h1] at e
   simp at e
  ·rw [h1] at e
   simp at e
 cut := fun n i _ hi => by
  unfold nJ
  rw [Ag n i hi]
  rfl
end
section
theorem wf_u32 {z : Int} : (Lit.int .u32 z).wf = true ↔ 0 ≤ z ∧ z < 4294967296 := by
 simp [Lit.wf, IntKind.min, IntKind.max, IntKind.signed, IntKind.bits]
 omega
theorem wf_i64 {z : Int} : (Lit.int .i64 z).wf = true ↔ -9223372036854775808 ≤ z ∧ z < 9223372036854775808 := by
 simp [Lit.wf, IntKind.min, IntKind.max, IntKind.signed, IntKind.bits]
 omega
def dF (n : Nat) : aQ .u32 := ⟨((n % 4294967296 : Nat) : Int), wf_u32.2 (by omega)⟩
def tL (n : Nat) : aQ .i64 := ⟨if n % 18446744073709551616 < 9223372036854775808 then ((n % 18446744073709551616 : Nat) : Int) else ((n % 18446744073709551616 : Nat) : Int) - 18446744073709551616, wf_i64.2 (by split <;> omega)⟩
def gL (z : aQ .i64) : Nat := (z.1 % 18446744073709551616).toNat
def rU : Rd (aQ .u32) := fK dF (jC 4)
def yQ : Rd (aQ .i64) := fK tL (jC 8)
theorem uH : Good (fun z : aQ .u32 => bD z.1.toNat 4) rU (fun _ => True) :=
 (nL 4).map dF (fun z => z.1.toNat)
  (fun z _ => Subtype.ext (by have := wf_u32.1 z.2; show ((z.1.toNat % 4294967296 : Nat) : Int) = z.1; omega))
  (fun n h => by show (((n % 4294967296 : Nat) : Int)).toNat = n; have : n < 4294967296 := h; omega)
  (fun z _ => by have := wf_u32.1 z.2; show z.1.toNat < 4294967296; omega) (fun _ _ => trivial)
theorem lM : Good (fun z : aQ .i64 => bD (gL z) 8) yQ (fun _ => True) :=
 (nL 8).map tL gL
  (fun z _ => Subtype.ext (by
   have := wf_i64.1 z.2
   show (if gL z % 18446744073709551616 < 9223372036854775808 then ((gL z % 18446744073709551616 : Nat) : Int) else ((gL z % 18446744073709551616 : Nat) : Int) - 18446744073709551616) = z.1
   unfold gL
   split <;> omega))
  (fun n h => by
   have h' : n < 18446744073709551616 := h
   unfold gL tL
   simp only
   split <;> omega)
  (fun z _ => by show gL z < 18446744073709551616; unfold gL; omega) (fun _ _ => trivial)
def gZ (p : aS × aQ .u32) : List UInt8 := p.1.1 ++ bD p.2.1.toNat 4
def dH (p : aQ .i64 × aS) : List UInt8 := bD (gL p.1) 8 ++ p.2.1
def Gq : Rd (aS × aQ .u32) := bT gD (fun _ => rU)
def sw : Rd (aQ .i64 × aS) := bT yQ (fun _ => gD)
theorem xy : Good gZ Gq (fun _ => True ∧ True) := dn.fZ (fun _ _ => uH)
theorem uI : Good dH sw (fun _ => True ∧ True) := lM.fZ (fun _ _ => dn)
def yK {α : Type} (W : α → List UInt8) (l : List α) : List UInt8 := cmpL l.length ++ l.flatMap W
def iU {α : Type} (R : Rd α) : Rd (List α) := fK (·.2) (bT nJ (dw R))
theorem Good.many {α : Type} {W : α → List UInt8} {R : Rd α} {V : α → Prop} (h : Good W R V) : Good (yK W) (iU R) (fun l => l.length ≤ 40 ∧ ∀ x ∈ l, V x) :=
 (gV.fZ (fun n _ => h.list n)).map (·.2) (fun l => (l.length, l)) (fun _ _ => rfl) (fun a v => by obtain ⟨n, l⟩ := a; exact Prod.ext v.2.1 rfl) (fun _ v => ⟨v.1, rfl, v.2⟩) (fun a v => ⟨by rw [v.2.1]; exact v.1, v.2.2⟩)
def qp (n : Nat) : Rd aS := if n = 0 then fun s => .ok (ai, s) else gD
theorem Py (n : Nat) : Good (fun k : aS => if n = 0 then [] else k.1) (qp n) (fun k => n = 0 → k = ai) := by
 by_cases hn : n = 0
 ·subst hn
  exact {
   fwd := fun a rest v => by rw [v rfl]; rfl
   bwd := fun s a r e => by
    simp only [qp, if_true, Except.ok.injEq, Prod.mk.injEq] at e
    exact ⟨fun _ => e.1.symm, by simp [e.2]⟩
   cut := fun a i _ hi => by simp at hi }
 ·have h : (fun k : aS => if n = 0 then [] else k.1) = (fun k : aS => k.1) := funext fun k => if_neg hn
  rw [h]
  unfold qp
  rw [if_neg hn]
  exact {
   fwd := fun a rest _ => dn.fwd a rest trivial
   bwd := fun s a r e => ⟨fun q => absurd q hn, (dn.bwd s a r e).2⟩
   cut := fun a i _ hi => dn.cut a i trivial hi }
def El (p : aS × List aS) : List UInt8 := cmpL p.2.length ++ ((if p.2.length = 0 then [] else p.1.1) ++ p.2.flatMap (·.1))
def mJ : Rd (aS × List aS) := fK (·.2) (bT nJ (fun n => bT (qp n) (fun _ => dw gD n)))
theorem Kz : Good El mJ (fun p => p.2.length ≤ 40 ∧ (p.2.length = 0 → p.1 = ai)) :=
 (gV.fZ (fun n _ => (Py n).fZ (fun _ _ => dn.list n))).map (·.2) (fun p => (p.2.length, p)) (fun _ _ => rfl)
  (fun a v => by obtain ⟨n, p⟩ := a; exact Prod.ext v.2.2.1 rfl) (fun _ v => ⟨v.1, v.2, rfl, fun _ _ => trivial⟩) (fun a v => ⟨by rw [v.2.2.1]; exact v.1, by rw [v.2.2.1]; exact v.2.1⟩)
def ry (T : dX) : Prop := T.ins.length ≤ 40 ∧ T.outs.length ≤ 40 ∧ T.av.length ≤ 40 ∧ T.notes.length ≤ 40 ∧ (T.av.length = 0 → T.anchor = ai)
def vz (T : dX) : List UInt8 := bD T.exp.1.toNat 4 ++ (yK gZ T.ins ++ (yK dH T.outs ++ (El (T.anchor, T.av) ++ (yK (·.1) T.notes ++ bD (gL T.dW) 8))))
abbrev TxP := aQ .u32 × List (aS × aQ .u32) × List (aQ .i64 × aS) × (aS × List aS) × List aS × aQ .i64
def Xi (p : TxP) : dX := ⟨p.1, p.2.1, p.2.2.1, p.2.2.2.1.1, p.2.2.2.1.2, p.2.2.2.2.1, p.2.2.2.2.2⟩
def aab (T : dX) : TxP := (T.exp, T.ins, T.outs, (T.anchor, T.av), T.notes, T.dW)
def nV : Rd dX := fK Xi (bT rU fun _ => bT (iU Gq) fun _ => bT (iU sw) fun _ => bT mJ fun _ => bT (iU gD) fun _ => yQ)
theorem Cm : Good vz nV ry := by
 have h := uH.fZ fun _ _ => xy.many.fZ fun _ _ => uI.many.fZ fun _ _ => Kz.fZ fun _ _ => dn.many.fZ fun _ _ => lM
 exact h.map (V' := ry) Xi aab (fun _ _ => rfl) (fun _ _ => rfl)
  (fun T v => ⟨trivial, ⟨v.1, fun _ _ => ⟨trivial, trivial⟩⟩, ⟨v.2.1, fun _ _ => ⟨trivial, trivial⟩⟩, ⟨v.2.2.1, v.2.2.2.2⟩, ⟨v.2.2.2.1, fun _ _ => trivial⟩, trivial⟩)
  (fun p v => ⟨v.2.1.1, v.2.2.1.1, v.2.2.2.1.1, v.2.2.2.2.1.1, v.2.2.2.1.2⟩)
theorem uq (p : aS × aQ .u32) : (gZ p).length = 36 := by unfold gZ; rw [List.length_append, p.1.2, bQ]
theorem qd (p : aQ .i64 × aS) : (dH p).length = 40 := by unfold dH; rw [List.length_append, p.2.2, bQ]
theorem aaU {α : Type} (W : α → List UInt8) (k : Nat) (h : ∀ x, (W x).length = k) : ∀ l : List α, (l.flatMap W).length = k * l.length
 | [] => by simp
 | a :: l => by rw [List.flatMap_cons, List.length_append, h, aaU W k h l, List.length_cons, Nat.mul_add, Nat.mul_one, Nat.add_comm]
theorem lV (n : Nat) (h : n ≤ 40) : (cmpL n).length = 1 := by unfold cmpL; rw [if_pos (by omega), bQ]
theorem tK (T : dX) (h : ry T) : (vz T).length = 4 + 1 + 36 * T.ins.length + 1 + 40 * T.outs.length + 1 + 32 * T.av.length + 1 + 32 * T.notes.length + 8 + (if 0 < T.av.length then 32 else 0) := by
 obtain ⟨h1, h2, h3, h4, _⟩ := h
 unfold vz yK El
 simp only [List.length_append, bQ, lV _ h1, lV _ h2, lV _ h3, lV _ h4, aaU gZ 36 uq, aaU dH 40 qd, aaU (fun k : aS => k.1) 32 (fun k => k.2)]
 by_cases h0 : T.av.length = 0
 ·rw [if_pos h0, if_neg (by omega)]; simp; omega
 ·rw [if_neg h0, if_pos (by omega), T.anchor.2]; omega
def fA (T : dX) : List UInt8 × Int :=
 if 40 < T.ins.length ∨ 40 < T.outs.length ∨ 40 < T.av.length ∨ 40 < T.notes.length then ([], 51) else if T.av.length = 0 ∧ T.anchor ≠ ai then ([], 1) else (vz T, 0)
theorem xA (T : dX) (h : ry T) : fA T = (vz T, 0) := by
 obtain ⟨h1, h2, h3, h4, h5⟩ := h
 unfold fA
 rw [if_neg (by omega), if_neg (fun q => q.2 (h5 q.1))]
theorem sN (T : dX) : (ry T ∧ fA T = (vz T, 0)) ∨ fA T = ([], 51) ∨ fA T = ([], 1) := by
 by_cases h : 40 < T.ins.length ∨ 40 < T.outs.length ∨ 40 < T.av.length ∨ 40 < T.notes.length
 ·exact .inr (.inl (by unfold fA; rw [if_pos h]))
 by_cases h' : T.av.length = 0 ∧ T.anchor ≠ ai
 ·exact .inr (.inr (by unfold fA; rw [if_neg h, if_pos h']))
 ·refine .inl ⟨⟨by omega, by omega, by omega, by omega, fun q => Classical.byContradiction fun e => h' ⟨q, e⟩⟩, by unfold fA; rw [if_neg h, if_neg h']⟩
def Kc : dX := ⟨dF 0, [], [], ai, [], [], tL 0⟩
def og (s : List UInt8) : dX × List UInt8 × Int := match nV s with
 | .error e => (Kc, [], e)
 | .ok (T, r) => (T, r, 0)
theorem PD {wd : Nat} {s : List UInt8} {e : Int} (h : jC wd s = .error e) : e = 30 := by
 unfold jC at h
 split at h
 ·injection h with h; exact h.symm
 ·cases h
def oW {α : Type} (R : Rd α) : Prop := ∀ s e, R s = .error e → e = 30 ∨ e = 31 ∨ e = 51
theorem oW.fZ {α β : Type} {R1 : Rd α} {R2 : α → Rd β} (h1 : oW R1) (h2 : ∀ a, oW (R2 a)) : oW (bT R1 R2) := by
 intro s e h
 unfold bT at h
 split at h
 ·rename_i e1 q; injection h with h; subst h; exact h1 _ _ q
 ·split at h
  ·rename_i e1 q; injection h with h; subst h; exact h2 _ _ _ q
  ·cases h
theorem oW.map {α β : Type} {f : α → β} {R : Rd α} (h1 : oW R) : oW (fK f R) := by
 intro s e h
 unfold fK at h
 split at h
 ·rename_i e1 q; injection h with h; subst h; exact h1 _ _ q
 ·cases h
theorem oW.list {α : Type} {R : Rd α} (h : oW R) : ∀ n, oW (dw R n)
 | 0 => fun s e q => by simp [dw] at q
 | n + 1 => (oW.fZ h (fun _ => oW.list h n)).map
theorem qi (wd : Nat) : oW (jC wd) := fun _ _ h => Or.inl (PD h)
theorem lT : oW gD := fun s e h => by
 unfold gD at h
 split at h
 ·injection h with h; exact Or.inl h.symm
 ·cases h
theorem EW : oW nJ := fun s e h => by
 unfold nJ at h
 rcases mG s with ⟨n, r, h1, _, _⟩ | h1 | h1
 ·rw [h1] at h
  simp only [if_true] at h
  split at h
  ·injection h with h; exact Or.inr (Or.inr h.symm)
  ·cases h
 ·rw [h1] at h
  simp at h
  exact Or.inl h.symm
 ·rw [h1] at h
  simp at h
  exact Or.inr (Or.inl h.symm)
theorem PN (n : Nat) : oW (qp n) := by
 unfold qp
 split
 ·intro s e h; cases h
 ·exact lT
theorem vR {α : Type} {R : Rd α} (h : oW R) : oW (iU R) := (EW.fZ (fun n => h.list n)).map
theorem Ct : oW nV :=
 ((qi 4).map.fZ fun _ => (vR (lT.fZ fun _ => (qi 4).map)).fZ fun _ => (vR ((qi 8).map.fZ fun _ => lT)).fZ fun _ =>
  (EW.fZ fun n => (PN n).fZ fun _ => lT.list n).map.fZ fun _ => (vR lT).fZ fun _ => (qi 8).map).map
end
section
open Go.RowKit
theorem sD (z : aQ .u32) (w : World) :
 Calls Tryz.prog 115 #[.int .u32 z.1] w fun e w' => e = .returned (.string ⟨(bD z.1.toNat 4).toArray⟩) ∧ Below w.heap.size w w' := by
 have hz := wf_u32.1 z.2
 have hc : IntKind.u64.wrap z.1 = (z.1.toNat : Int) := by rw [IntKind.wrap_u64]; omega
 obtain ⟨n, hn⟩ : ∃ n : Nat, z.1.toNat = n := ⟨_, rfl⟩
 rw [hn] at hc ⊢
 generalize z.1 = y at hc
 clear hz hn
 go_enter Tryz.func115, Tryz.ntmps115
 go_wp2_with fail
 refine (nN n 4 _).mono ?_
 rintro e w1 ⟨rfl, b1⟩
 rw [show kL n 4 = bD n 4 by unfold kL; rw [if_neg (by omega)]; rfl]
 go_wp2
 go_ret
 exact ⟨rfl, b1⟩
theorem sS (z : aQ .i64) (w : World) :
 Calls Tryz.prog 124 #[.int .i64 z.1] w fun e w' => e = .returned (.string ⟨(bD (gL z) 8).toArray⟩) ∧ Below w.heap.size w w' := by
 have hc : IntKind.u64.wrap z.1 = (gL z : Int) := by rw [IntKind.wrap_u64]; unfold gL; omega
 obtain ⟨n, hn⟩ : ∃ n : Nat, gL z = n := ⟨_, rfl⟩
 rw [hn] at hc ⊢
 generalize z.1 = y at hc
 clear hn
 go_enter Tryz.func124, Tryz.ntmps124
 go_wp2_with fail
 refine (nN n 8 _).mono ?_
 rintro e w1 ⟨rfl, b1⟩
 rw [show kL n 8 = bD n 8 by unfold kL; rw [if_neg (by omega)]; rfl]
 go_wp2
 go_ret
 exact ⟨rfl, b1⟩
theorem jU : cu Tryz.prog 89 142 (aR .u32) 33 := ⟨Tryz.underlying89, by kernel_rfl, fT _, vT _, Tryz.isAgg142, by omega⟩
theorem nD : cu Tryz.prog 90 144 (dR .i64) 33 := ⟨Tryz.underlying90, by kernel_rfl, fU _, qP _, Tryz.isAgg144, by omega⟩
theorem wG (A : Option Addr) (n c : Nat) (hn : n ≤ 1000000) (w : World) :
 Calls Tryz.prog 116 #[.slice A n c] w fun e w' => e = .returned (.string ⟨(cmpL n).toArray⟩) ∧ Below w.heap.size w w' := by
 have hc : IntKind.u64.wrap (n : Int) = (n : Int) := by rw [IntKind.wrap_u64]; omega
 go_enter Tryz.func116, Tryz.ntmps116
 go_wp2_with fail
 refine (kW n _).mono ?_
 rintro e w1 ⟨rfl, b1⟩
 go_wp2
 go_ret
 exact ⟨rfl, b1⟩
theorem uP (A : Option Addr) (n c : Nat) (hn : n ≤ 1000000) (w : World) :
 Calls Tryz.prog 119 #[.slice A n c] w fun e w' => e = .returned (.string ⟨(cmpL n).toArray⟩) ∧ Below w.heap.size w w' := by
 have hc : IntKind.u64.wrap (n : Int) = (n : Int) := by rw [IntKind.wrap_u64]; omega
 go_enter Tryz.func119, Tryz.ntmps119
 go_wp2_with fail
 refine (kW n _).mono ?_
 rintro e w1 ⟨rfl, b1⟩
 go_wp2
 go_ret
 exact ⟨rfl, b1⟩
theorem kV (A : Option Addr) (n c : Nat) (hn : n ≤ 1000000) (w : World) :
 Calls Tryz.prog 122 #[.slice A n c] w fun e w' => e = .returned (.string ⟨(cmpL n).toArray⟩) ∧ Below w.heap.size w w' := by
 have hc : IntKind.u64.wrap (n : Int) = (n : Int) := by rw [IntKind.wrap_u64]; omega
 go_enter Tryz.func122, Tryz.ntmps122
 go_wp2_with fail
 refine (kW n _).mono ?_
 rintro e w1 ⟨rfl, b1⟩
 go_wp2
 go_ret
 exact ⟨rfl, b1⟩
theorem jI (k : aS) (w : World) :
 Calls Tryz.prog 45 #[.agg (ak k).toArray] w fun e w' => e = .returned (.string ⟨k.1.toArray⟩) ∧ Below w.heap.size w w' := by
 rw [dQ]; exact Lu k.1 k.2 w
theorem JX (p : aS × aQ .u32) (w : World) :
 Calls Tryz.prog 118 #[.agg (aR .u32 p).toArray] w fun e w' => e = .returned (.string ⟨(gZ p).toArray⟩) ∧ Below w.heap.size w w' := by
 have hb : au (w.alloc (.cells (aR .u32 p).toArray 142)) w.heap.size 0 (aR .u32 p) := au.ah (ax.new _ _ _)
 have hk : ∀ w', From (w.alloc (.cells (aR .u32 p).toArray 142)) w' → au w' w.heap.size 0 (ak p.1) := fun w' hC => hb.ko.below hC.below (by simp)
 have hi : ∀ w', From (w.alloc (.cells (aR .u32 p).toArray 142)) w' → w'.cell? ⟨w.heap.size, 32, none⟩ = some (.int .u32 p.2.1) := fun w' hC => (hC.below.cell (by simp)).trans hb.sI
 have HK := qh hk
 have HI := qh hi
 clear hb hk hi
 have hadd : ∀ V, (Op.stringOp .add ⟨p.1.1.toArray⟩ ⟨(bD p.2.1.toNat 4).toArray⟩).run Tryz.prog V = .ok (.string ⟨(gZ p).toArray⟩) V := fun V => run_string_add_lists V _ _ (by rw [p.1.2]; decide) (by rw [bQ]; decide)
 go_enter Tryz.func118, Tryz.ntmps118
 go_wp2_with fail
 refine fE (by kernel_rfl) (by kernel_rfl) ?_
 repeat (first
  | ((with_reducible refine bI 3 ?_); refine eH.gM (by rfl) (.tmp 3) rfl w.heap.size 0 rfl p.1 HK.out ?_; simp only [Act.put, List.setIfInBounds_toArray, List.set_cons_succ, List.set_cons_zero])
  | ((with_reducible refine bI 6 ?_); refine aN (by rfl) 24 (.tmp 6) rfl ⟨w.heap.size, 32, none⟩ rfl (.int .u32 p.2.1) Tryz.isAgg24 HI.out ?_; simp only [Act.put, List.setIfInBounds_toArray, List.set_cons_succ, List.set_cons_zero])
  | (go_big_quiet_want; go_big_quiet_op; refine ⟨_, fun _ _ => by with_reducible rfl, ?_⟩; go_big_quiet_on)
  | go_big_quiet_step ((intro hC; first
   | (go_at_call 45; with_reducible exact (jI p.1 _).mono fun _ _ h => ⟨h.1, hC.call h.2⟩)
   | (go_at_call 115; with_reducible exact (sD p.2 _).mono fun _ _ h => ⟨h.1, hC.call h.2⟩))))
 refine wpQuiet_nil ?_
 intro w9 hC
 go_wp2_with fail
 go_ret
 exact ⟨rfl, ((Below.refl _ _).alloc (Nat.le_refl _) _).trans (hC.below.mono (by simp))⟩
theorem Sl (p : aQ .i64 × aS) (w : World) :
 Calls Tryz.prog 121 #[.agg (dR .i64 p).toArray] w fun e w' => e = .returned (.string ⟨(dH p).toArray⟩) ∧ Below w.heap.size w w' := by
 have hb : au (w.alloc (.cells (dR .i64 p).toArray 144)) w.heap.size 0 (dR .i64 p) := au.ah (ax.new _ _ _)
 have hk : ∀ w', From (w.alloc (.cells (dR .i64 p).toArray 144)) w' → au w' w.heap.size 1 (ak p.2) := fun w' hC => by have := hb.Vr.below hC.below (by simp); rwa [Nat.zero_add] at this
 have hi : ∀ w', From (w.alloc (.cells (dR .i64 p).toArray 144)) w' → w'.cell? ⟨w.heap.size, 0, none⟩ = some (.int .i64 p.1.1) := fun w' hC => (hC.below.cell (by simp)).trans hb.GR
 have HK := qh hk
 have HI := qh hi
 clear hb hk hi
 have hadd : ∀ V, (Op.stringOp .add ⟨(bD (gL p.1) 8).toArray⟩ ⟨p.2.1.toArray⟩).run Tryz.prog V = .ok (.string ⟨(dH p).toArray⟩) V := fun V => run_string_add_lists V _ _ (by rw [bQ]; decide) (by rw [p.2.2]; decide)
 go_enter Tryz.func121, Tryz.ntmps121
 go_wp2_with fail
 refine fE (by kernel_rfl) (by kernel_rfl) ?_
 repeat (first
  | ((with_reducible refine bI 3 ?_); refine aN (by rfl) 2 (.tmp 3) rfl ⟨w.heap.size, 0, none⟩ rfl (.int .i64 p.1.1) Tryz.isAgg2 HI.out ?_; simp only [Act.put, List.setIfInBounds_toArray, List.set_cons_succ, List.set_cons_zero])
  | ((with_reducible refine bI 6 ?_); refine eH.gM (by rfl) (.tmp 6) rfl w.heap.size 1 rfl p.2 HK.out ?_; simp only [Act.put, List.setIfInBounds_toArray, List.set_cons_succ, List.set_cons_zero])
  | (go_big_quiet_want; go_big_quiet_op; refine ⟨_, fun _ _ => by with_reducible rfl, ?_⟩; go_big_quiet_on)
  | go_big_quiet_step ((intro hC; first
   | (go_at_call 45; with_reducible exact (jI p.2 _).mono fun _ _ h => ⟨h.1, hC.call h.2⟩)
   | (go_at_call 124; with_reducible exact (sS p.1 _).mono fun _ _ h => ⟨h.1, hC.call h.2⟩))))
 refine wpQuiet_nil ?_
 intro w9 hC
 go_wp2_with fail
 go_ret
 exact ⟨rfl, ((Below.refl _ _).alloc (Nat.le_refl _) _).trans (hC.below.mono (by simp))⟩
end
section
open Go.RowKit
def dM (k : aS) : List UInt8 := k.1
theorem nK (k : aS) : (dM k).length = 32 := k.2
theorem jT (a b : List UInt8) : Lib.byteCells a ++ Lib.byteCells b = Lib.byteCells (a ++ b) := by unfold Lib.byteCells; rw [List.map_append]
theorem oP (l : List UInt8) : (Lib.byteCells l).length = l.length := by simp [Lib.byteCells]
theorem gG (l : List UInt8) : (ByteArray.mk l.toArray).size = l.length := by simp [ByteArray.size]
theorem vK {a b m n : Nat} (h : a ≤ m * n) (h2 : b ≤ 40) (hm : m ≤ 40) (hn : n ≤ 1000) : a + b ≤ 140737488355328 := by have := Nat.mul_le_mul hm hn; omega
theorem lN {α : Type} (W : α → List UInt8) (l : List α) (k : Nat) (h : k < l.length) : (l.take k).flatMap W ++ W l[k] = (l.take (k + 1)).flatMap W := by
 rw [List.take_succ_eq_append_getElem h, List.flatMap_append]; simp
theorem oI {α : Type} (W : α → List UInt8) (m : Nat) (hm : ∀ x, (W x).length = m) (l : List α) (k : Nat) : ((l.take k).flatMap W).length ≤ m * l.length := by
 rw [aaU W m hm]
 exact Nat.mul_le_mul_left m (by rw [List.length_take]; omega)
theorem own_below {w w' : World} {B e size n : Nat} {v : Value} {xs : List Value} (h : w.ownsRow B e size v n xs) (hb : Below w.heap.size w w') : w'.ownsRow B e size v n xs := by
 refine ⟨h.1, ?_⟩
 rcases h.2 with hn | ⟨g, cap, cur, rfl, hg, hgg, rest⟩
 ·exact .inl hn
 ·exact .inr ⟨g, cap, cur, rfl, hg, by rw [hb.block g (Array.getElem?_eq_some_iff.1 hgg).1]; exact hgg, rest⟩
theorem wJ {T e : TypeId} {B b : Nat} {p : Value} {bs : List Value} {w w' : World} (h : Lib.BuilderAt T e B b p bs w) (hb : Below w.heap.size w w') : Lib.BuilderAt T e B b p bs w' := by
 obtain ⟨hB, v, hbk, hown, hne⟩ := h
 exact ⟨hB, v, by rw [hb.block b (Array.getElem?_eq_some_iff.1 hbk).1]; exact hbk, own_below hown hb, hne⟩
theorem vY {T e : TypeId} {B b : Nat} {bs : List Value} {w w' : World} (h : Lib.IsBuilder T e B b bs w) (hb : Below w.heap.size w w') : Lib.IsBuilder T e B b bs w' :=
 h.elim (fun x => .inl (wJ x hb)) (fun x => .inr (wJ x hb))
theorem qQ (w : World) (T e : TypeId) {W : World} (hW : W = w.alloc (.cells #[.pointer none, .slice none 0 0] T)) : Lib.IsBuilder T e w.heap.size w.heap.size [] W :=
 hW ▸ .inl ⟨Nat.le_refl _, .slice none 0 0, ax.new w T _, World.ownsRow_nil _ _ _ _, by simp [Value.ownBlock]⟩
theorem yO (A : Option Addr) (c : Nat) (l : List (aS × aQ .u32)) (w : World) (hl : aK (aR .u32) 33 w w.heap.size A c l) (hn : l.length ≤ 1000) :
 Calls Tryz.prog 117 #[.slice A l.length c, .func (.func 118) #[] #[]] w fun e w' => e = .returned (.string ⟨(l.flatMap gZ).toArray⟩) ∧ Below w.heap.size w w' := by
 have HL := qh hl
 clear hl
 go_enter Tryz.func117, Tryz.ntmps117
 go_wp2_with fail
 go_loopw [10] (fun i wr => ∃ k : Nat, k ≤ l.length ∧ i = .int .i64 k ∧ Lib.IsBuilder 97 5 w.heap.size w.heap.size (Lib.byteCells ((l.take k).flatMap gZ)) wr ∧ Below w.heap.size w wr)
  (fun i _ => l.length - (intOf i).toNat)
 case atStart => exact ⟨0, by omega, rfl, qQ w _ _ rfl, (Below.refl _ _).alloc (Nat.le_refl _) _⟩
 case round =>
  obtain ⟨k, hk, rfl, hg, hb⟩ := hrel
  have HG := qh hg
  clear hg
  by_cases hlt : k < l.length
  ·obtain ⟨g, o, rfl, hg, hc⟩ := (HL.out.below hb).at (fT _) hlt
   have hsz := hb.size
   have HC := qh hc
   have hm := oI gZ _ uq l k
   have hx : (gZ l[k]).length ≤ 40 := (show ∀ x, (gZ x).length ≤ 40 from fun x => Nat.le_trans (Nat.le_of_eq (uq x)) (by omega)) _
   have HM := qh hm
   have HX := qh hx
   clear hc hm hx
   go_wp2_with (first
    | ((with_reducible refine az 12 ?_); refine jU.af rfl (.tmp 12) rfl g (o + k * 33) rfl l[k] HC.out ?_)
    | ((with_reducible refine ag 7 13 ?_); refine aG rfl 142 (.tmp 7) (.tmp 13) rfl rfl wr.heap.size (aR .u32 l[k]).toArray rfl rfl 142 _ (ax.new wr _ _) (jU.oU _) (by rw [jU.arr]; rfl) (jU.zq _) ?_; intro w3 o3 b3; have K3 := qh (au.ah b3); have B3 := qh (o3.below (B := wr.heap.size) (by simp)); have Z3 := B3.out.size; clear b3 o3)
    | ((with_reducible refine az 7 ?_); refine jU.af rfl (.tmp 7) rfl wr.heap.size 0 rfl l[k] (by simpa using K3.out) ?_)
    )
   refine (JX l[k] _).mono ?_
   rintro e w4 ⟨rfl, b4⟩
   have hz3 : wr.heap.size ≤ w3.heap.size := by simp at Z3; omega
   have B4 : Below wr.heap.size wr w4 := ((Below.refl _ _).alloc (Nat.le_refl _) _).trans (B3.out.trans (b4.mono hz3))
   have G4 := qh (vY HG.out B4)
   have Z4 := B4.size
   have Y6 := qh (hb.trans (B4.mono hsz))
   clear b4 B3 Z3 hz3 B4 HG K3
   go_wp2_with fail
   refine (jc w.heap.size w.heap.size _ ⟨(gZ l[k]).toArray⟩ _ G4.out (by rw [oP, gG]; exact vK HM.out HX.out (by omega) hn) (by omega)).mono ?_
   rintro e w5 ⟨rfl, g5, b5⟩
   rw [show Lib.byteCells ((l.take k).flatMap gZ) ++ Lib.strCells ⟨(gZ l[k]).toArray⟩ = Lib.byteCells ((l.take (k + 1)).flatMap gZ) by rw [← lN _ _ _ hlt, ← jT]; simp [Lib.strCells_eq]] at g5
   have G5 := qh g5
   clear g5 HM HX HC
   have B5 := qh (Y6.out.trans b5)
   clear b5 G4
   go_wp2
   go_roundw
   case rel => exact ⟨k + 1, by omega, by go_num, .inr G5.out, B5.out⟩
   case measure => simp [intOf]; omega
  ·have hkl : k = l.length := by omega
   have HG2 : Hid (Lib.IsBuilder 97 5 w.heap.size w.heap.size (Lib.byteCells (l.flatMap gZ)) wr) := by
    have := HG.out
    rw [hkl, List.take_length] at this; exact this
   clear HG hkl
   go_wp2_with fail
   refine (oO w.heap.size w.heap.size _ _ HG2.out hb.size).mono ?_
   rintro e w5 ⟨rfl, b5⟩
   have B5 := hb.trans b5
   go_wp2
   go_ret
   exact ⟨rfl, B5⟩
theorem wB (A : Option Addr) (c : Nat) (l : List (aQ .i64 × aS)) (w : World) (hl : aK (dR .i64) 33 w w.heap.size A c l) (hn : l.length ≤ 1000) :
 Calls Tryz.prog 120 #[.slice A l.length c, .func (.func 121) #[] #[]] w fun e w' => e = .returned (.string ⟨(l.flatMap dH).toArray⟩) ∧ Below w.heap.size w w' := by
 have HL := qh hl
 clear hl
 go_enter Tryz.func120, Tryz.ntmps120
 go_wp2_with fail
 go_loopw [10] (fun i wr => ∃ k : Nat, k ≤ l.length ∧ i = .int .i64 k ∧ Lib.IsBuilder 97 5 w.heap.size w.heap.size (Lib.byteCells ((l.take k).flatMap dH)) wr ∧ Below w.heap.size w wr)
  (fun i _ => l.length - (intOf i).toNat)
 case atStart => exact ⟨0, by omega, rfl, qQ w _ _ rfl, (Below.refl _ _).alloc (Nat.le_refl _) _⟩
 case round =>
  obtain ⟨k, hk, rfl, hg, hb⟩ := hrel
  have HG := qh hg
  clear hg
  by_cases hlt : k < l.length
  ·obtain ⟨g, o, rfl, hg, hc⟩ := (HL.out.below hb).at (fU _) hlt
   have hsz := hb.size
   have HC := qh hc
   have hm := oI dH _ qd l k
   have hx : (dH l[k]).length ≤ 40 := (show ∀ x, (dH x).length ≤ 40 from fun x => Nat.le_trans (Nat.le_of_eq (qd x)) (by omega)) _
   have HM := qh hm
   have HX := qh hx
   clear hc hm hx
   go_wp2_with (first
    | ((with_reducible refine az 12 ?_); refine nD.af rfl (.tmp 12) rfl g (o + k * 33) rfl l[k] HC.out ?_)
    | ((with_reducible refine ag 7 13 ?_); refine aG rfl 144 (.tmp 7) (.tmp 13) rfl rfl wr.heap.size (dR .i64 l[k]).toArray rfl rfl 144 _ (ax.new wr _ _) (nD.oU _) (by rw [nD.arr]; rfl) (nD.zq _) ?_; intro w3 o3 b3; have K3 := qh (au.ah b3); have B3 := qh (o3.below (B := wr.heap.size) (by simp)); have Z3 := B3.out.size; clear b3 o3)
    | ((with_reducible refine az 7 ?_); refine nD.af rfl (.tmp 7) rfl wr.heap.size 0 rfl l[k] (by simpa using K3.out) ?_)
    )
   refine (Sl l[k] _).mono ?_
   rintro e w4 ⟨rfl, b4⟩
   have hz3 : wr.heap.size ≤ w3.heap.size := by simp at Z3; omega
   have B4 : Below wr.heap.size wr w4 := ((Below.refl _ _).alloc (Nat.le_refl _) _).trans (B3.out.trans (b4.mono hz3))
   have G4 := qh (vY HG.out B4)
   have Z4 := B4.size
   have Y6 := qh (hb.trans (B4.mono hsz))
   clear b4 B3 Z3 hz3 B4 HG K3
   go_wp2_with fail
   refine (jc w.heap.size w.heap.size _ ⟨(dH l[k]).toArray⟩ _ G4.out (by rw [oP, gG]; exact vK HM.out HX.out (by omega) hn) (by omega)).mono ?_
   rintro e w5 ⟨rfl, g5, b5⟩
   rw [show Lib.byteCells ((l.take k).flatMap dH) ++ Lib.strCells ⟨(dH l[k]).toArray⟩ = Lib.byteCells ((l.take (k + 1)).flatMap dH) by rw [← lN _ _ _ hlt, ← jT]; simp [Lib.strCells_eq]] at g5
   have G5 := qh g5
   clear g5 HM HX HC
   have B5 := qh (Y6.out.trans b5)
   clear b5 G4
   go_wp2
   go_roundw
   case rel => exact ⟨k + 1, by omega, by go_num, .inr G5.out, B5.out⟩
   case measure => simp [intOf]; omega
  ·have hkl : k = l.length := by omega
   have HG2 : Hid (Lib.IsBuilder 97 5 w.heap.size w.heap.size (Lib.byteCells (l.flatMap dH)) wr) := by
    have := HG.out
    rw [hkl, List.take_length] at this; exact this
   clear HG hkl
   go_wp2_with fail
   refine (oO w.heap.size w.heap.size _ _ HG2.out hb.size).mono ?_
   rintro e w5 ⟨rfl, b5⟩
   have B5 := hb.trans b5
   go_wp2
   go_ret
   exact ⟨rfl, B5⟩
theorem mK (A : Option Addr) (c : Nat) (l : List (aS)) (w : World) (hl : aK (ak) 32 w w.heap.size A c l) (hn : l.length ≤ 1000) :
 Calls Tryz.prog 123 #[.slice A l.length c, .func (.func 45) #[] #[]] w fun e w' => e = .returned (.string ⟨(l.flatMap dM).toArray⟩) ∧ Below w.heap.size w w' := by
 have HL := qh hl
 clear hl
 go_enter Tryz.func123, Tryz.ntmps123
 go_wp2_with fail
 go_loopw [10] (fun i wr => ∃ k : Nat, k ≤ l.length ∧ i = .int .i64 k ∧ Lib.IsBuilder 97 5 w.heap.size w.heap.size (Lib.byteCells ((l.take k).flatMap dM)) wr ∧ Below w.heap.size w wr)
  (fun i _ => l.length - (intOf i).toNat)
 case atStart => exact ⟨0, by omega, rfl, qQ w _ _ rfl, (Below.refl _ _).alloc (Nat.le_refl _) _⟩
 case round =>
  obtain ⟨k, hk, rfl, hg, hb⟩ := hrel
  have HG := qh hg
  clear hg
  by_cases hlt : k < l.length
  ·obtain ⟨g, o, rfl, hg, hc⟩ := (HL.out.below hb).at (aC) hlt
   have hsz := hb.size
   have HC := qh hc
   have hm := oI dM _ nK l k
   have hx : (dM l[k]).length ≤ 40 := (show ∀ x, (dM x).length ≤ 40 from fun x => Nat.le_trans (Nat.le_of_eq (nK x)) (by omega)) _
   have HM := qh hm
   have HX := qh hx
   clear hc hm hx
   go_wp2_with (first
    | ((with_reducible refine az 12 ?_); refine eH.af rfl (.tmp 12) rfl g (o + k * 32) rfl l[k] HC.out ?_)
    | ((with_reducible refine ag 7 13 ?_); refine aG rfl 26 (.tmp 7) (.tmp 13) rfl rfl wr.heap.size (ak l[k]).toArray rfl rfl 26 _ (ax.new wr _ _) (eH.oU _) (by rw [eH.arr]; rfl) (eH.zq _) ?_; intro w3 o3 b3; have K3 := qh (au.ah b3); have B3 := qh (o3.below (B := wr.heap.size) (by simp)); have Z3 := B3.out.size; clear b3 o3)
    | ((with_reducible refine az 7 ?_); refine eH.af rfl (.tmp 7) rfl wr.heap.size 0 rfl l[k] (by simpa using K3.out) ?_)
    )
   refine (jI l[k] _).mono ?_
   rintro e w4 ⟨rfl, b4⟩
   have hz3 : wr.heap.size ≤ w3.heap.size := by simp at Z3; omega
   have B4 : Below wr.heap.size wr w4 := ((Below.refl _ _).alloc (Nat.le_refl _) _).trans (B3.out.trans (b4.mono hz3))
   have G4 := qh (vY HG.out B4)
   have Z4 := B4.size
   have Y6 := qh (hb.trans (B4.mono hsz))
   clear b4 B3 Z3 hz3 B4 HG K3
   go_wp2_with fail
   refine (jc w.heap.size w.heap.size _ ⟨(dM l[k]).toArray⟩ _ G4.out (by rw [oP, gG]; exact vK HM.out HX.out (by omega) hn) (by omega)).mono ?_
   rintro e w5 ⟨rfl, g5, b5⟩
   rw [show Lib.byteCells ((l.take k).flatMap dM) ++ Lib.strCells ⟨(dM l[k]).toArray⟩ = Lib.byteCells ((l.take (k + 1)).flatMap dM) by rw [← lN _ _ _ hlt, ← jT]; simp [Lib.strCells_eq]] at g5
   have G5 := qh g5
   clear g5 HM HX HC
   have B5 := qh (Y6.out.trans b5)
   clear b5 G4
   go_wp2
   go_roundw
   case rel => exact ⟨k + 1, by omega, by go_num, .inr G5.out, B5.out⟩
   case measure => simp [intOf]; omega
  ·have hkl : k = l.length := by omega
   have HG2 : Hid (Lib.IsBuilder 97 5 w.heap.size w.heap.size (Lib.byteCells (l.flatMap dM)) wr) := by
    have := HG.out
    rw [hkl, List.take_length] at this; exact this
   clear HG hkl
   go_wp2_with fail
   refine (oO w.heap.size w.heap.size _ _ HG2.out hb.size).mono ?_
   rintro e w5 ⟨rfl, b5⟩
   have B5 := hb.trans b5
   go_wp2
   go_ret
   exact ⟨rfl, B5⟩
end
section
open Go.RowKit
def q9 (r : List UInt8 × Int) : Value := .tuple #[.string ⟨r.1.toArray⟩, .int .i64 r.2]
theorem tY {P : Program} (ts : Array TypeId) (t : TypeId) (a b c d : Nat) (w : World) :
 (Builtin.max_ ts t #[.int .i64 a, .int .i64 b, .int .i64 c, .int .i64 d]).run P w = .ok (.int .i64 ((max a (max b (max c d)) : Nat) : Int)) w := by
 have h : ∀ x y : Nat, (if x < y then (y : Int) else (x : Int)) = ((max x y : Nat) : Int) := fun x y => by split <;> omega
 simp [Builtin.max_, Builtin.max2]
 simp only [h, Int.ofNat_lt]
 omega
theorem jS (n : Nat) : (cmpL n).length ≤ 9 := by rw [zg]; unfold pq; split <;> (try split) <;> (try split) <;> omega
theorem PW (T : dX) (hx : T.ins.length ≤ 40 ∧ T.outs.length ≤ 40 ∧ T.av.length ≤ 40 ∧ T.notes.length ≤ 40) (h0 : T.av.length = 0) (ha : T.anchor ≠ ai) : fA T = ([], 1) := by
 unfold fA
 rw [if_neg (by omega), if_pos ⟨h0, ha⟩]
theorem Fb (T : dX) (hx : T.ins.length ≤ 40 ∧ T.outs.length ≤ 40 ∧ T.av.length ≤ 40 ∧ T.notes.length ≤ 40) (ha : T.av.length = 0 → T.anchor = ai) : fA T = (vz T, 0) := xA T ⟨hx.1, hx.2.1, hx.2.2.1, hx.2.2.2, ha⟩
section
variable {T : dX} {Ai Ao An At : Option Addr} {ci co cn ct : Nat}
theorem PU (w : World) (hx : 40 < T.ins.length ∨ 40 < T.outs.length ∨ 40 < T.av.length ∨ 40 < T.notes.length) :
 Calls Tryz.prog 68 #[.agg (bf T Ai ci Ao co An cn At ct).toArray] w fun e w' => e = .returned (q9 (fA T)) ∧ Below w.heap.size w w' := by
 rw [show fA T = ([], 51) by unfold fA; rw [if_pos hx]]
 have hb : au (w.alloc (.cells (bf T Ai ci Ao co An cn At ct).toArray 92)) w.heap.size 0 (bf T Ai ci Ao co An cn At ct) := au.ah (ax.new _ _ _)
 have c1 := rW hb
 have c2 := nU hb
 have c4 := lG hb
 have c5 := lH hb
 clear hb
 simp only [Nat.zero_add] at c1 c2 c4 c5
 obtain ⟨m, hm⟩ : ∃ m : Nat, max T.ins.length (max T.outs.length (max T.av.length T.notes.length)) = m := ⟨_, rfl⟩
 have hmax : ∀ W ts t, (Builtin.max_ ts t #[.int .i64 T.ins.length, .int .i64 T.outs.length, .int .i64 T.av.length, .int .i64 T.notes.length]).run Tryz.prog W = .ok (.int .i64 (m : Int)) W := fun W ts t => hm ▸ tY ts t _ _ _ _ W
 have hd : decide ((40 : Int) < m) = true := by simp; omega
 clear hm hx
 go_enter Tryz.func68, Tryz.ntmps68
 go_wp2
 go_ret2
 exact ⟨rfl, (Below.refl _ _).alloc (Nat.le_refl _) _⟩
theorem Tn (w : World) (h : wm w w.heap.size T Ai ci Ao co An cn At ct) (hx : T.ins.length ≤ 40 ∧ T.outs.length ≤ 40 ∧ T.av.length ≤ 40 ∧ T.notes.length ≤ 40) (h0 : T.av.length = 0) (ha : T.anchor ≠ ai) :
 Calls Tryz.prog 68 #[.agg (bf T Ai ci Ao co An cn At ct).toArray] w fun e w' => e = .returned (q9 (fA T)) ∧ Below w.heap.size w w' := by
 rw [PW T hx h0 ha]
 obtain ⟨r, hr⟩ : ∃ r, decide (T.anchor = ai) = r := ⟨_, rfl⟩
 obtain rfl : r = false := by rw [← hr]; simpa using ha
 have HR := qh hr
 have hd0 : decide (0 < T.av.length) = false := by rw [h0]; rfl
 clear hr ha h0
 have hb : au (w.alloc (.cells (bf T Ai ci Ao co An cn At ct).toArray 92)) w.heap.size 0 (bf T Ai ci Ao co An cn At ct) := au.ah (ax.new _ _ _)
 have c1 := rW hb
 have c2 := nU hb
 have c4 := lG hb
 have c5 := lH hb
 have HK := qh (vw hb)
 have HB := qh hb
 clear hb
 simp only [Nat.zero_add] at c1 c2 c4 c5
 have HI := qh hx.1
 have HO := qh hx.2.1
 have HN := qh hx.2.2.1
 have HT := qh hx.2.2.2
 have LI := qh (show T.ins.length ≤ 1000000 by omega)
 have LO := qh (show T.outs.length ≤ 1000000 by omega)
 have LN := qh (show T.av.length ≤ 1000000 by omega)
 have LT := qh (show T.notes.length ≤ 1000000 by omega)
 have HH := qh h
 obtain ⟨m, hm⟩ : ∃ m : Nat, max T.ins.length (max T.outs.length (max T.av.length T.notes.length)) = m := ⟨_, rfl⟩
 have hmax : ∀ W ts t, (Builtin.max_ ts t #[.int .i64 T.ins.length, .int .i64 T.outs.length, .int .i64 T.av.length, .int .i64 T.notes.length]).run Tryz.prog W = .ok (.int .i64 (m : Int)) W := fun W ts t => hm ▸ tY ts t _ _ _ _ W
 have hd : decide ((40 : Int) < m) = false := by simp; omega
 clear hm hx h
 clear HB HI HO HN HT LI LO LN LT HH
 obtain ⟨r, rfl⟩ : ∃ r, r = false := ⟨_, rfl⟩
 go_enter Tryz.func68, Tryz.ntmps68
 go_wp2_with (first
  | ((with_reducible refine az 26 ?_); refine eH.af rfl (.tmp 26) rfl w.heap.size 3 rfl T.anchor (by simpa using HK.out) ?_)
  | ((with_reducible refine uV 27 28 ?_); refine iY (by rfl) 26 26 (.tmp 27) (.tmp 28) rfl (ak T.anchor).toArray (ak ai).toArray rfl (congrArg Value.agg vJ) (by kernel_rfl) false (fun V => by rw [jw, HR.out]) ?_; simp only [Act.put, List.setIfInBounds_toArray, List.set_cons_succ, List.set_cons_zero, Bool.not_false]))
 go_ret2
 exact ⟨rfl, (Below.refl _ _).alloc (Nat.le_refl _) _⟩
theorem PT (w : World) (h : wm w w.heap.size T Ai ci Ao co An cn At ct) (hx : T.ins.length ≤ 40 ∧ T.outs.length ≤ 40 ∧ T.av.length ≤ 40 ∧ T.notes.length ≤ 40) (h0 : T.av.length = 0) (ha : T.anchor = ai) :
 Calls Tryz.prog 68 #[.agg (bf T Ai ci Ao co An cn At ct).toArray] w fun e w' => e = .returned (q9 (fA T)) ∧ Below w.heap.size w w' := by
 rw [Fb T hx (fun _ => ha)]
 have hr : decide (T.anchor = ai) = true := by simpa using ha
 have HR := qh hr
 have hd0 : decide (0 < T.av.length) = false := by rw [h0]; rfl
 have E0 : vz T = ((bD T.exp.1.toNat 4) ++ ((cmpL T.ins.length) ++ ((T.ins.flatMap gZ) ++ ((cmpL T.outs.length) ++ ((T.outs.flatMap dH) ++ ((cmpL T.av.length) ++ ((T.av.flatMap dM) ++ ((cmpL T.notes.length) ++ ((T.notes.flatMap dM) ++ (bD (gL T.dW) 8)))))))))) := by
  have hk : ∀ l : List aS, l.flatMap (fun k => k.1) = l.flatMap dM := fun _ => rfl
  unfold vz yK El
  simp only [hk, h0, if_true, List.append_assoc, List.nil_append]
 clear hr ha
 have l0 : (bD T.exp.1.toNat 4).length ≤ 2000 := by rw [bQ]; omega
 have b1 : (cmpL T.ins.length).length ≤ 2000 := Nat.le_trans (jS _) (by omega)
 have Yh : ∀ V, (Op.stringOp .add ⟨((bD T.exp.1.toNat 4)).toArray⟩ ⟨(cmpL T.ins.length).toArray⟩).run Tryz.prog V = .ok (.string ⟨(((bD T.exp.1.toNat 4) ++ (cmpL T.ins.length))).toArray⟩) V := fun V => run_string_add_lists V _ _ (by omega) (by omega)
 have l1 : (((bD T.exp.1.toNat 4) ++ (cmpL T.ins.length))).length ≤ 4000 := by
  have := l0
  simp only [List.length_append] at this ⊢
  omega
 have b2 : (T.ins.flatMap gZ).length ≤ 2000 := by rw [aaU gZ 36 uq]; omega
 have Yg : ∀ V, (Op.stringOp .add ⟨(((bD T.exp.1.toNat 4) ++ (cmpL T.ins.length))).toArray⟩ ⟨(T.ins.flatMap gZ).toArray⟩).run Tryz.prog V = .ok (.string ⟨(((bD T.exp.1.toNat 4) ++ ((cmpL T.ins.length) ++ (T.ins.flatMap gZ)))).toArray⟩) V := fun V => (run_string_add_lists V _ _ (by omega) (by omega)).trans (by simp only [List.append_assoc])
 have l2 : (((bD T.exp.1.toNat 4) ++ ((cmpL T.ins.length) ++ (T.ins.flatMap gZ)))).length ≤ 6000 := by
  have := l1
  simp only [List.length_append] at this ⊢
  omega
 have b3 : (cmpL T.outs.length).length ≤ 2000 := Nat.le_trans (jS _) (by omega)
 have Yf : ∀ V, (Op.stringOp .add ⟨(((bD T.exp.1.toNat 4) ++ ((cmpL T.ins.length) ++ (T.ins.flatMap gZ)))).toArray⟩ ⟨(cmpL T.outs.length).toArray⟩).run Tryz.prog V = .ok (.string ⟨(((bD T.exp.1.toNat 4) ++ ((cmpL T.ins.length) ++ ((T.ins.flatMap gZ) ++ (cmpL T.outs.length))))).toArray⟩) V := fun V => (run_string_add_lists V _ _ (by omega) (by omega)).trans (by simp only [List.append_assoc])
 have l3 : (((bD T.exp.1.toNat 4) ++ ((cmpL T.ins.length) ++ ((T.ins.flatMap gZ) ++ (cmpL T.outs.length))))).length ≤ 8000 := by
  have := l2
  simp only [List.length_append] at this ⊢
  omega
 have b4 : (T.outs.flatMap dH).length ≤ 2000 := by rw [aaU dH 40 qd]; omega
 have Ye : ∀ V, (Op.stringOp .add ⟨(((bD T.exp.1.toNat 4) ++ ((cmpL T.ins.length) ++ ((T.ins.flatMap gZ) ++ (cmpL T.outs.length))))).toArray⟩ ⟨(T.outs.flatMap dH).toArray⟩).run Tryz.prog V = .ok (.string ⟨(((bD T.exp.1.toNat 4) ++ ((cmpL T.ins.length) ++ ((T.ins.flatMap gZ) ++ ((cmpL T.outs.length) ++ (T.outs.flatMap dH)))))).toArray⟩) V := fun V => (run_string_add_lists V _ _ (by omega) (by omega)).trans (by simp only [List.append_assoc])
 have l4 : (((bD T.exp.1.toNat 4) ++ ((cmpL T.ins.length) ++ ((T.ins.flatMap gZ) ++ ((cmpL T.outs.length) ++ (T.outs.flatMap dH)))))).length ≤ 10000 := by
  have := l3
  simp only [List.length_append] at this ⊢
  omega
 have b5 : (cmpL T.av.length).length ≤ 2000 := Nat.le_trans (jS _) (by omega)
 have Yd : ∀ V, (Op.stringOp .add ⟨(((bD T.exp.1.toNat 4) ++ ((cmpL T.ins.length) ++ ((T.ins.flatMap gZ) ++ ((cmpL T.outs.length) ++ (T.outs.flatMap dH)))))).toArray⟩ ⟨(cmpL T.av.length).toArray⟩).run Tryz.prog V = .ok (.string ⟨(((bD T.exp.1.toNat 4) ++ ((cmpL T.ins.length) ++ ((T.ins.flatMap gZ) ++ ((cmpL T.outs.length) ++ ((T.outs.flatMap dH) ++ (cmpL T.av.length))))))).toArray⟩) V := fun V => (run_string_add_lists V _ _ (by omega) (by omega)).trans (by simp only [List.append_assoc])
 have l5 : (((bD T.exp.1.toNat 4) ++ ((cmpL T.ins.length) ++ ((T.ins.flatMap gZ) ++ ((cmpL T.outs.length) ++ ((T.outs.flatMap dH) ++ (cmpL T.av.length))))))).length ≤ 12000 := by
  have := l4
  simp only [List.length_append] at this ⊢
  omega
 have Yc : ∀ V, (Op.stringOp .add ⟨(((bD T.exp.1.toNat 4) ++ ((cmpL T.ins.length) ++ ((T.ins.flatMap gZ) ++ ((cmpL T.outs.length) ++ ((T.outs.flatMap dH) ++ (cmpL T.av.length))))))).toArray⟩ ⟨#[]⟩).run Tryz.prog V = .ok (.string ⟨(((bD T.exp.1.toNat 4) ++ ((cmpL T.ins.length) ++ ((T.ins.flatMap gZ) ++ ((cmpL T.outs.length) ++ ((T.outs.flatMap dH) ++ (cmpL T.av.length))))))).toArray⟩) V := fun V => (run_string_add_lists V _ [] (by omega) (by simp)).trans (by simp only [List.append_nil])
 have l6 := l5
 have b6 := l5
 have b7 : (T.av.flatMap dM).length ≤ 2000 := by rw [aaU dM 32 nK]; omega
 have Yb : ∀ V, (Op.stringOp .add ⟨(((bD T.exp.1.toNat 4) ++ ((cmpL T.ins.length) ++ ((T.ins.flatMap gZ) ++ ((cmpL T.outs.length) ++ ((T.outs.flatMap dH) ++ (cmpL T.av.length))))))).toArray⟩ ⟨(T.av.flatMap dM).toArray⟩).run Tryz.prog V = .ok (.string ⟨(((bD T.exp.1.toNat 4) ++ ((cmpL T.ins.length) ++ ((T.ins.flatMap gZ) ++ ((cmpL T.outs.length) ++ ((T.outs.flatMap dH) ++ ((cmpL T.av.length) ++ (T.av.flatMap dM)))))))).toArray⟩) V := fun V => (run_string_add_lists V _ _ (by omega) (by omega)).trans (by simp only [List.append_assoc])
 have l7 : (((bD T.exp.1.toNat 4) ++ ((cmpL T.ins.length) ++ ((T.ins.flatMap gZ) ++ ((cmpL T.outs.length) ++ ((T.outs.flatMap dH) ++ ((cmpL T.av.length) ++ (T.av.flatMap dM)))))))).length ≤ 14000 := by
  have := l6
  simp only [List.length_append] at this ⊢
  omega
 have b8 : (cmpL T.notes.length).length ≤ 2000 := Nat.le_trans (jS _) (by omega)
 have Ya : ∀ V, (Op.stringOp .add ⟨(((bD T.exp.1.toNat 4) ++ ((cmpL T.ins.length) ++ ((T.ins.flatMap gZ) ++ ((cmpL T.outs.length) ++ ((T.outs.flatMap dH) ++ ((cmpL T.av.length) ++ (T.av.flatMap dM)))))))).toArray⟩ ⟨(cmpL T.notes.length).toArray⟩).run Tryz.prog V = .ok (.string ⟨(((bD T.exp.1.toNat 4) ++ ((cmpL T.ins.length) ++ ((T.ins.flatMap gZ) ++ ((cmpL T.outs.length) ++ ((T.outs.flatMap dH) ++ ((cmpL T.av.length) ++ ((T.av.flatMap dM) ++ (cmpL T.notes.length))))))))).toArray⟩) V := fun V => (run_string_add_lists V _ _ (by omega) (by omega)).trans (by simp only [List.append_assoc])
 have l8 : (((bD T.exp.1.toNat 4) ++ ((cmpL T.ins.length) ++ ((T.ins.flatMap gZ) ++ ((cmpL T.outs.length) ++ ((T.outs.flatMap dH) ++ ((cmpL T.av.length) ++ ((T.av.flatMap dM) ++ (cmpL T.notes.length))))))))).length ≤ 16000 := by
  have := l7
  simp only [List.length_append] at this ⊢
  omega
 have b9 : (T.notes.flatMap dM).length ≤ 2000 := by rw [aaU dM 32 nK]; omega
 have X8 : ∀ V, (Op.stringOp .add ⟨(((bD T.exp.1.toNat 4) ++ ((cmpL T.ins.length) ++ ((T.ins.flatMap gZ) ++ ((cmpL T.outs.length) ++ ((T.outs.flatMap dH) ++ ((cmpL T.av.length) ++ ((T.av.flatMap dM) ++ (cmpL T.notes.length))))))))).toArray⟩ ⟨(T.notes.flatMap dM).toArray⟩).run Tryz.prog V = .ok (.string ⟨(((bD T.exp.1.toNat 4) ++ ((cmpL T.ins.length) ++ ((T.ins.flatMap gZ) ++ ((cmpL T.outs.length) ++ ((T.outs.flatMap dH) ++ ((cmpL T.av.length) ++ ((T.av.flatMap dM) ++ ((cmpL T.notes.length) ++ (T.notes.flatMap dM)))))))))).toArray⟩) V := fun V => (run_string_add_lists V _ _ (by omega) (by omega)).trans (by simp only [List.append_assoc])
 have l9 : (((bD T.exp.1.toNat 4) ++ ((cmpL T.ins.length) ++ ((T.ins.flatMap gZ) ++ ((cmpL T.outs.length) ++ ((T.outs.flatMap dH) ++ ((cmpL T.av.length) ++ ((T.av.flatMap dM) ++ ((cmpL T.notes.length) ++ (T.notes.flatMap dM)))))))))).length ≤ 18000 := by
  have := l8
  simp only [List.length_append] at this ⊢
  omega
 have b10 : (bD (gL T.dW) 8).length ≤ 2000 := by rw [bQ]; omega
 have Vw : ∀ V, (Op.stringOp .add ⟨(((bD T.exp.1.toNat 4) ++ ((cmpL T.ins.length) ++ ((T.ins.flatMap gZ) ++ ((cmpL T.outs.length) ++ ((T.outs.flatMap dH) ++ ((cmpL T.av.length) ++ ((T.av.flatMap dM) ++ ((cmpL T.notes.length) ++ (T.notes.flatMap dM)))))))))).toArray⟩ ⟨(bD (gL T.dW) 8).toArray⟩).run Tryz.prog V = .ok (.string ⟨(((bD T.exp.1.toNat 4) ++ ((cmpL T.ins.length) ++ ((T.ins.flatMap gZ) ++ ((cmpL T.outs.length) ++ ((T.outs.flatMap dH) ++ ((cmpL T.av.length) ++ ((T.av.flatMap dM) ++ ((cmpL T.notes.length) ++ ((T.notes.flatMap dM) ++ (bD (gL T.dW) 8))))))))))).toArray⟩) V := fun V => (run_string_add_lists V _ _ (by omega) (by omega)).trans (by simp only [List.append_assoc])
 have l10 : (((bD T.exp.1.toNat 4) ++ ((cmpL T.ins.length) ++ ((T.ins.flatMap gZ) ++ ((cmpL T.outs.length) ++ ((T.outs.flatMap dH) ++ ((cmpL T.av.length) ++ ((T.av.flatMap dM) ++ ((cmpL T.notes.length) ++ ((T.notes.flatMap dM) ++ (bD (gL T.dW) 8))))))))))).length ≤ 20000 := by
  have := l9
  simp only [List.length_append] at this ⊢
  omega
 clear l0 l1 l2 l3 l4 l5 l6 l7 l8 l9 l10 b1 b2 b3 b4 b5 b6 b7 b8 b9 b10
 have HZ := qh h0
 clear h0
 have HE := qh E0
 clear E0
 have hb : au (w.alloc (.cells (bf T Ai ci Ao co An cn At ct).toArray 92)) w.heap.size 0 (bf T Ai ci Ao co An cn At ct) := au.ah (ax.new _ _ _)
 have c1 := rW hb
 have c2 := nU hb
 have c4 := lG hb
 have c5 := lH hb
 have HK := qh (vw hb)
 have HB := qh hb
 clear hb
 simp only [Nat.zero_add] at c1 c2 c4 c5
 have HI := qh hx.1
 have HO := qh hx.2.1
 have HN := qh hx.2.2.1
 have HT := qh hx.2.2.2
 have LI := qh (show T.ins.length ≤ 1000000 by omega)
 have LO := qh (show T.outs.length ≤ 1000000 by omega)
 have LN := qh (show T.av.length ≤ 1000000 by omega)
 have LT := qh (show T.notes.length ≤ 1000000 by omega)
 have HH := qh h
 obtain ⟨m, hm⟩ : ∃ m : Nat, max T.ins.length (max T.outs.length (max T.av.length T.notes.length)) = m := ⟨_, rfl⟩
 have hmax : ∀ W ts t, (Builtin.max_ ts t #[.int .i64 T.ins.length, .int .i64 T.outs.length, .int .i64 T.av.length, .int .i64 T.notes.length]).run Tryz.prog W = .ok (.int .i64 (m : Int)) W := fun W ts t => hm ▸ tY ts t _ _ _ _ W
 have hd : decide ((40 : Int) < m) = false := by simp; omega
 clear hm hx h
 have LB : ∀ w', From (w.alloc (.cells (bf T Ai ci Ao co An cn At ct).toArray 92)) w' → Below w.heap.size w w' := fun w' hC => ((Below.refl _ _).alloc (Nat.le_refl _) _).trans (hC.below.mono (by simp))
 have LR : ∀ w', From (w.alloc (.cells (bf T Ai ci Ao co An cn At ct).toArray 92)) w' → au w' w.heap.size 0 (bf T Ai ci Ao co An cn At ct) := fun w' hC => HB.out.below hC.below (by simp)
 have WB := qh (fun (w' : World) (hC : From (w.alloc (.cells (bf T Ai ci Ao co An cn At ct).toArray 92)) w') => (show w'.cell? ⟨w.heap.size, 0, none⟩ = some (.int .u32 T.exp.1) from by simpa using F5 (LR w' hC)))
 have QN := qh (fun (w' : World) (hC : From (w.alloc (.cells (bf T Ai ci Ao co An cn At ct).toArray 92)) w') => (show w'.cell? ⟨w.heap.size, 1, none⟩ = some (.slice Ai T.ins.length ci) from by simpa using rW (LR w' hC)))
 have FO := qh (fun (w' : World) (hC : From (w.alloc (.cells (bf T Ai ci Ao co An cn At ct).toArray 92)) w') => (show w'.cell? ⟨w.heap.size, 2, none⟩ = some (.slice Ao T.outs.length co) from by simpa using nU (LR w' hC)))
 have zy := qh (fun (w' : World) (hC : From (w.alloc (.cells (bf T Ai ci Ao co An cn At ct).toArray 92)) w') => (show w'.cell? ⟨w.heap.size, 35, none⟩ = some (.slice An T.av.length cn) from by simpa using lG (LR w' hC)))
 have zz := qh (fun (w' : World) (hC : From (w.alloc (.cells (bf T Ai ci Ao co An cn At ct).toArray 92)) w') => (show w'.cell? ⟨w.heap.size, 36, none⟩ = some (.slice At T.notes.length ct) from by simpa using lH (LR w' hC)))
 have WC := qh (fun (w' : World) (hC : From (w.alloc (.cells (bf T Ai ci Ao co An cn At ct).toArray 92)) w') => (show w'.cell? ⟨w.heap.size, 37, none⟩ = some (.int .i64 T.dW.1) from by simpa using F6 (LR w' hC)))
 have RI := qh (fun (w' : World) (hC : From (w.alloc (.cells (bf T Ai ci Ao co An cn At ct).toArray 92)) w') => (HH.out.ins.below (LB w' hC)).more (LB w' hC).size)
 have RO := qh (fun (w' : World) (hC : From (w.alloc (.cells (bf T Ai ci Ao co An cn At ct).toArray 92)) w') => (HH.out.outs.below (LB w' hC)).more (LB w' hC).size)
 have RN := qh (fun (w' : World) (hC : From (w.alloc (.cells (bf T Ai ci Ao co An cn At ct).toArray 92)) w') => (HH.out.av.below (LB w' hC)).more (LB w' hC).size)
 have RT := qh (fun (w' : World) (hC : From (w.alloc (.cells (bf T Ai ci Ao co An cn At ct).toArray 92)) w') => (HH.out.notes.below (LB w' hC)).more (LB w' hC).size)
 have HLB := qh LB
 clear LB LR
 go_enter Tryz.func68, Tryz.ntmps68
 go_wp2_with (first
  | ((with_reducible refine az 26 ?_); refine eH.af rfl (.tmp 26) rfl w.heap.size 3 rfl T.anchor (by simpa using HK.out) ?_)
  | ((with_reducible refine uV 27 28 ?_); refine iY (by rfl) 26 26 (.tmp 27) (.tmp 28) rfl (ak T.anchor).toArray (ak ai).toArray rfl (congrArg Value.agg vJ) (by kernel_rfl) true (fun V => by rw [jw, HR.out]) ?_; simp only [Act.put, List.setIfInBounds_toArray, List.set_cons_succ, List.set_cons_zero, Bool.not_true]))
 clear c1 c2 c4 c5
 refine fE (by kernel_rfl) (by kernel_rfl) ?_
 repeat (first
  | ((with_reducible refine bI 30 ?_); refine aN (by rfl) 24 (.tmp 30) rfl ⟨w.heap.size, 0, none⟩ rfl (.int .u32 T.exp.1) Tryz.isAgg24 WB.out ?_; simp only [Act.put, List.setIfInBounds_toArray, List.set_cons_succ, List.set_cons_zero])
  | ((with_reducible refine bI 33 ?_); refine aN (by rfl) 89 (.tmp 33) rfl ⟨w.heap.size, 1, none⟩ rfl (.slice Ai T.ins.length ci) Tryz.isAgg89 QN.out ?_; simp only [Act.put, List.setIfInBounds_toArray, List.set_cons_succ, List.set_cons_zero])
  | ((with_reducible refine bI 37 ?_); refine aN (by rfl) 89 (.tmp 37) rfl ⟨w.heap.size, 1, none⟩ rfl (.slice Ai T.ins.length ci) Tryz.isAgg89 QN.out ?_; simp only [Act.put, List.setIfInBounds_toArray, List.set_cons_succ, List.set_cons_zero])
  | ((with_reducible refine bI 41 ?_); refine aN (by rfl) 90 (.tmp 41) rfl ⟨w.heap.size, 2, none⟩ rfl (.slice Ao T.outs.length co) Tryz.isAgg90 FO.out ?_; simp only [Act.put, List.setIfInBounds_toArray, List.set_cons_succ, List.set_cons_zero])
  | ((with_reducible refine bI 45 ?_); refine aN (by rfl) 90 (.tmp 45) rfl ⟨w.heap.size, 2, none⟩ rfl (.slice Ao T.outs.length co) Tryz.isAgg90 FO.out ?_; simp only [Act.put, List.setIfInBounds_toArray, List.set_cons_succ, List.set_cons_zero])
  | ((with_reducible refine bI 49 ?_); refine aN (by rfl) 22 (.tmp 49) rfl ⟨w.heap.size, 35, none⟩ rfl (.slice An T.av.length cn) Tryz.isAgg22 zy.out ?_; simp only [Act.put, List.setIfInBounds_toArray, List.set_cons_succ, List.set_cons_zero])
  | ((with_reducible refine bI 55 ?_); refine aN (by rfl) 22 (.tmp 55) rfl ⟨w.heap.size, 35, none⟩ rfl (.slice An T.av.length cn) Tryz.isAgg22 zy.out ?_; simp only [Act.put, List.setIfInBounds_toArray, List.set_cons_succ, List.set_cons_zero])
  | ((with_reducible refine bI 59 ?_); refine aN (by rfl) 22 (.tmp 59) rfl ⟨w.heap.size, 36, none⟩ rfl (.slice At T.notes.length ct) Tryz.isAgg22 zz.out ?_; simp only [Act.put, List.setIfInBounds_toArray, List.set_cons_succ, List.set_cons_zero])
  | ((with_reducible refine bI 63 ?_); refine aN (by rfl) 22 (.tmp 63) rfl ⟨w.heap.size, 36, none⟩ rfl (.slice At T.notes.length ct) Tryz.isAgg22 zz.out ?_; simp only [Act.put, List.setIfInBounds_toArray, List.set_cons_succ, List.set_cons_zero])
  | ((with_reducible refine bI 67 ?_); refine aN (by rfl) 2 (.tmp 67) rfl ⟨w.heap.size, 37, none⟩ rfl (.int .i64 T.dW.1) Tryz.isAgg2 WC.out ?_; simp only [Act.put, List.setIfInBounds_toArray, List.set_cons_succ, List.set_cons_zero])
  | (go_big_quiet_want; go_big_quiet_op; refine ⟨_, fun _ _ => by with_reducible rfl, ?_⟩; go_big_quiet_on)
  | go_big_quiet_step ((intro hC; first
   | (go_at_call 115; with_reducible exact (sD T.exp _).mono fun _ _ h => ⟨h.1, hC.call h.2⟩)
   | (go_at_call 116; with_reducible exact (wG Ai T.ins.length ci LI.out _).mono fun _ _ h => ⟨h.1, hC.call h.2⟩)
   | (go_at_call 117; with_reducible exact (yO Ai ci T.ins _ (RI.out _ hC) (by have := HI.out; omega)).mono fun _ _ h => ⟨h.1, hC.call h.2⟩)
   | (go_at_call 119; with_reducible exact (uP Ao T.outs.length co LO.out _).mono fun _ _ h => ⟨h.1, hC.call h.2⟩)
   | (go_at_call 120; with_reducible exact (wB Ao co T.outs _ (RO.out _ hC) (by have := HO.out; omega)).mono fun _ _ h => ⟨h.1, hC.call h.2⟩)
   | (go_at_call 122; with_reducible exact (kV An T.av.length cn LN.out _).mono fun _ _ h => ⟨h.1, hC.call h.2⟩)
   | (go_at_call 122; with_reducible exact (kV At T.notes.length ct LT.out _).mono fun _ _ h => ⟨h.1, hC.call h.2⟩)
   | (go_at_call 123; with_reducible exact (mK An cn T.av _ (RN.out _ hC) (by have := HN.out; omega)).mono fun _ _ h => ⟨h.1, hC.call h.2⟩)
   | (go_at_call 123; with_reducible exact (mK At ct T.notes _ (RT.out _ hC) (by have := HT.out; omega)).mono fun _ _ h => ⟨h.1, hC.call h.2⟩)
   | (go_at_call 124; with_reducible exact (sS T.dW _).mono fun _ _ h => ⟨h.1, hC.call h.2⟩))))
 refine wpQuiet_nil ?_
 intro w9 hC
 go_wp2_with fail
 go_ret2
 rw [HE.out]
 exact ⟨rfl, HLB.out _ hC⟩
theorem PS (w : World) (h : wm w w.heap.size T Ai ci Ao co An cn At ct) (hx : T.ins.length ≤ 40 ∧ T.outs.length ≤ 40 ∧ T.av.length ≤ 40 ∧ T.notes.length ≤ 40) (h0 : 0 < T.av.length) :
 Calls Tryz.prog 68 #[.agg (bf T Ai ci Ao co An cn At ct).toArray] w fun e w' => e = .returned (q9 (fA T)) ∧ Below w.heap.size w w' := by
 rw [Fb T hx (fun q => by omega)]
 have hd0 : decide (0 < T.av.length) = true := by simp only [decide_eq_true_iff]; exact h0
 have E0 : vz T = ((bD T.exp.1.toNat 4) ++ ((cmpL T.ins.length) ++ ((T.ins.flatMap gZ) ++ ((cmpL T.outs.length) ++ ((T.outs.flatMap dH) ++ ((cmpL T.av.length) ++ ((T.anchor.1) ++ ((T.av.flatMap dM) ++ ((cmpL T.notes.length) ++ ((T.notes.flatMap dM) ++ (bD (gL T.dW) 8))))))))))) := by
  have hk : ∀ l : List aS, l.flatMap (fun k => k.1) = l.flatMap dM := fun _ => rfl
  have hz : ¬ T.av.length = 0 := by omega
  unfold vz yK El
  simp only [hk, if_neg hz, List.append_assoc]
 clear h0
 have l0 : (bD T.exp.1.toNat 4).length ≤ 2000 := by rw [bQ]; omega
 have b1 : (cmpL T.ins.length).length ≤ 2000 := Nat.le_trans (jS _) (by omega)
 have Yh : ∀ V, (Op.stringOp .add ⟨((bD T.exp.1.toNat 4)).toArray⟩ ⟨(cmpL T.ins.length).toArray⟩).run Tryz.prog V = .ok (.string ⟨(((bD T.exp.1.toNat 4) ++ (cmpL T.ins.length))).toArray⟩) V := fun V => run_string_add_lists V _ _ (by omega) (by omega)
 have l1 : (((bD T.exp.1.toNat 4) ++ (cmpL T.ins.length))).length ≤ 4000 := by
  have := l0
  simp only [List.length_append] at this ⊢
  omega
 have b2 : (T.ins.flatMap gZ).length ≤ 2000 := by rw [aaU gZ 36 uq]; omega
 have Yg : ∀ V, (Op.stringOp .add ⟨(((bD T.exp.1.toNat 4) ++ (cmpL T.ins.length))).toArray⟩ ⟨(T.ins.flatMap gZ).toArray⟩).run Tryz.prog V = .ok (.string ⟨(((bD T.exp.1.toNat 4) ++ ((cmpL T.ins.length) ++ (T.ins.flatMap gZ)))).toArray⟩) V := fun V => (run_string_add_lists V _ _ (by omega) (by omega)).trans (by simp only [List.append_assoc])
 have l2 : (((bD T.exp.1.toNat 4) ++ ((cmpL T.ins.length) ++ (T.ins.flatMap gZ)))).length ≤ 6000 := by
  have := l1
  simp only [List.length_append] at this ⊢
  omega
 have b3 : (cmpL T.outs.length).length ≤ 2000 := Nat.le_trans (jS _) (by omega)
 have Yf : ∀ V, (Op.stringOp .add ⟨(((bD T.exp.1.toNat 4) ++ ((cmpL T.ins.length) ++ (T.ins.flatMap gZ)))).toArray⟩ ⟨(cmpL T.outs.length).toArray⟩).run Tryz.prog V = .ok (.string ⟨(((bD T.exp.1.toNat 4) ++ ((cmpL T.ins.length) ++ ((T.ins.flatMap gZ) ++ (cmpL T.outs.length))))).toArray⟩) V := fun V => (run_string_add_lists V _ _ (by omega) (by omega)).trans (by simp only [List.append_assoc])
 have l3 : (((bD T.exp.1.toNat 4) ++ ((cmpL T.ins.length) ++ ((T.ins.flatMap gZ) ++ (cmpL T.outs.length))))).length ≤ 8000 := by
  have := l2
  simp only [List.length_append] at this ⊢
  omega
 have b4 : (T.outs.flatMap dH).length ≤ 2000 := by rw [aaU dH 40 qd]; omega
 have Ye : ∀ V, (Op.stringOp .add ⟨(((bD T.exp.1.toNat 4) ++ ((cmpL T.ins.length) ++ ((T.ins.flatMap gZ) ++ (cmpL T.outs.length))))).toArray⟩ ⟨(T.outs.flatMap dH).toArray⟩).run Tryz.prog V = .ok (.string ⟨(((bD T.exp.1.toNat 4) ++ ((cmpL T.ins.length) ++ ((T.ins.flatMap gZ) ++ ((cmpL T.outs.length) ++ (T.outs.flatMap dH)))))).toArray⟩) V := fun V => (run_string_add_lists V _ _ (by omega) (by omega)).trans (by simp only [List.append_assoc])
 have l4 : (((bD T.exp.1.toNat 4) ++ ((cmpL T.ins.length) ++ ((T.ins.flatMap gZ) ++ ((cmpL T.outs.length) ++ (T.outs.flatMap dH)))))).length ≤ 10000 := by
  have := l3
  simp only [List.length_append] at this ⊢
  omega
 have b5 : (cmpL T.av.length).length ≤ 2000 := Nat.le_trans (jS _) (by omega)
 have Yd : ∀ V, (Op.stringOp .add ⟨(((bD T.exp.1.toNat 4) ++ ((cmpL T.ins.length) ++ ((T.ins.flatMap gZ) ++ ((cmpL T.outs.length) ++ (T.outs.flatMap dH)))))).toArray⟩ ⟨(cmpL T.av.length).toArray⟩).run Tryz.prog V = .ok (.string ⟨(((bD T.exp.1.toNat 4) ++ ((cmpL T.ins.length) ++ ((T.ins.flatMap gZ) ++ ((cmpL T.outs.length) ++ ((T.outs.flatMap dH) ++ (cmpL T.av.length))))))).toArray⟩) V := fun V => (run_string_add_lists V _ _ (by omega) (by omega)).trans (by simp only [List.append_assoc])
 have l5 : (((bD T.exp.1.toNat 4) ++ ((cmpL T.ins.length) ++ ((T.ins.flatMap gZ) ++ ((cmpL T.outs.length) ++ ((T.outs.flatMap dH) ++ (cmpL T.av.length))))))).length ≤ 12000 := by
  have := l4
  simp only [List.length_append] at this ⊢
  omega
 have b6 : (T.anchor.1).length ≤ 2000 := by rw [T.anchor.2]; omega
 have Yc : ∀ V, (Op.stringOp .add ⟨(((bD T.exp.1.toNat 4) ++ ((cmpL T.ins.length) ++ ((T.ins.flatMap gZ) ++ ((cmpL T.outs.length) ++ ((T.outs.flatMap dH) ++ (cmpL T.av.length))))))).toArray⟩ ⟨(T.anchor.1).toArray⟩).run Tryz.prog V = .ok (.string ⟨(((bD T.exp.1.toNat 4) ++ ((cmpL T.ins.length) ++ ((T.ins.flatMap gZ) ++ ((cmpL T.outs.length) ++ ((T.outs.flatMap dH) ++ ((cmpL T.av.length) ++ (T.anchor.1)))))))).toArray⟩) V := fun V => (run_string_add_lists V _ _ (by omega) (by omega)).trans (by simp only [List.append_assoc])
 have l6 : (((bD T.exp.1.toNat 4) ++ ((cmpL T.ins.length) ++ ((T.ins.flatMap gZ) ++ ((cmpL T.outs.length) ++ ((T.outs.flatMap dH) ++ ((cmpL T.av.length) ++ (T.anchor.1)))))))).length ≤ 14000 := by
  have := l5
  simp only [List.length_append] at this ⊢
  omega
 have b7 : (T.av.flatMap dM).length ≤ 2000 := by rw [aaU dM 32 nK]; omega
 have Yb : ∀ V, (Op.stringOp .add ⟨(((bD T.exp.1.toNat 4) ++ ((cmpL T.ins.length) ++ ((T.ins.flatMap gZ) ++ ((cmpL T.outs.length) ++ ((T.outs.flatMap dH) ++ ((cmpL T.av.length) ++ (T.anchor.1)))))))).toArray⟩ ⟨(T.av.flatMap dM).toArray⟩).run Tryz.prog V = .ok (.string ⟨(((bD T.exp.1.toNat 4) ++ ((cmpL T.ins.length) ++ ((T.ins.flatMap gZ) ++ ((cmpL T.outs.length) ++ ((T.outs.flatMap dH) ++ ((cmpL T.av.length) ++ ((T.anchor.1) ++ (T.av.flatMap dM))))))))).toArray⟩) V := fun V => (run_string_add_lists V _ _ (by omega) (by omega)).trans (by simp only [List.append_assoc])
 have l7 : (((bD T.exp.1.toNat 4) ++ ((cmpL T.ins.length) ++ ((T.ins.flatMap gZ) ++ ((cmpL T.outs.length) ++ ((T.outs.flatMap dH) ++ ((cmpL T.av.length) ++ ((T.anchor.1) ++ (T.av.flatMap dM))))))))).length ≤ 16000 := by
  have := l6
  simp only [List.length_append] at this ⊢
  omega
 have b8 : (cmpL T.notes.length).length ≤ 2000 := Nat.le_trans (jS _) (by omega)
 have Ya : ∀ V, (Op.stringOp .add ⟨(((bD T.exp.1.toNat 4) ++ ((cmpL T.ins.length) ++ ((T.ins.flatMap gZ) ++ ((cmpL T.outs.length) ++ ((T.outs.flatMap dH) ++ ((cmpL T.av.length) ++ ((T.anchor.1) ++ (T.av.flatMap dM))))))))).toArray⟩ ⟨(cmpL T.notes.length).toArray⟩).run Tryz.prog V = .ok (.string ⟨(((bD T.exp.1.toNat 4) ++ ((cmpL T.ins.length) ++ ((T.ins.flatMap gZ) ++ ((cmpL T.outs.length) ++ ((T.outs.flatMap dH) ++ ((cmpL T.av.length) ++ ((T.anchor.1) ++ ((T.av.flatMap dM) ++ (cmpL T.notes.length)))))))))).toArray⟩) V := fun V => (run_string_add_lists V _ _ (by omega) (by omega)).trans (by simp only [List.append_assoc])
 have l8 : (((bD T.exp.1.toNat 4) ++ ((cmpL T.ins.length) ++ ((T.ins.flatMap gZ) ++ ((cmpL T.outs.length) ++ ((T.outs.flatMap dH) ++ ((cmpL T.av.length) ++ ((T.anchor.1) ++ ((T.av.flatMap dM) ++ (cmpL T.notes.length)))))))))).length ≤ 18000 := by
  have := l7
  simp only [List.length_append] at this ⊢
  omega
 have b9 : (T.notes.flatMap dM).length ≤ 2000 := by rw [aaU dM 32 nK]; omega
 have X8 : ∀ V, (Op.stringOp .add ⟨(((bD T.exp.1.toNat 4) ++ ((cmpL T.ins.length) ++ ((T.ins.flatMap gZ) ++ ((cmpL T.outs.length) ++ ((T.outs.flatMap dH) ++ ((cmpL T.av.length) ++ ((T.anchor.1) ++ ((T.av.flatMap dM) ++ (cmpL T.notes.length)))))))))).toArray⟩ ⟨(T.notes.flatMap dM).toArray⟩).run Tryz.prog V = .ok (.string ⟨(((bD T.exp.1.toNat 4) ++ ((cmpL T.ins.length) ++ ((T.ins.flatMap gZ) ++ ((cmpL T.outs.length) ++ ((T.outs.flatMap dH) ++ ((cmpL T.av.length) ++ ((T.anchor.1) ++ ((T.av.flatMap dM) ++ ((cmpL T.notes.length) ++ (T.notes.flatMap dM))))))))))).toArray⟩) V := fun V => (run_string_add_lists V _ _ (by omega) (by omega)).trans (by simp only [List.append_assoc])
 have l9 : (((bD T.exp.1.toNat 4) ++ ((cmpL T.ins.length) ++ ((T.ins.flatMap gZ) ++ ((cmpL T.outs.length) ++ ((T.outs.flatMap dH) ++ ((cmpL T.av.length) ++ ((T.anchor.1) ++ ((T.av.flatMap dM) ++ ((cmpL T.notes.length) ++ (T.notes.flatMap dM))))))))))).length ≤ 20000 := by
  have := l8
  simp only [List.length_append] at this ⊢
  omega
 have b10 : (bD (gL T.dW) 8).length ≤ 2000 := by rw [bQ]; omega
 have Vw : ∀ V, (Op.stringOp .add ⟨(((bD T.exp.1.toNat 4) ++ ((cmpL T.ins.length) ++ ((T.ins.flatMap gZ) ++ ((cmpL T.outs.length) ++ ((T.outs.flatMap dH) ++ ((cmpL T.av.length) ++ ((T.anchor.1) ++ ((T.av.flatMap dM) ++ ((cmpL T.notes.length) ++ (T.notes.flatMap dM))))))))))).toArray⟩ ⟨(bD (gL T.dW) 8).toArray⟩).run Tryz.prog V = .ok (.string ⟨(((bD T.exp.1.toNat 4) ++ ((cmpL T.ins.length) ++ ((T.ins.flatMap gZ) ++ ((cmpL T.outs.length) ++ ((T.outs.flatMap dH) ++ ((cmpL T.av.length) ++ ((T.anchor.1) ++ ((T.av.flatMap dM) ++ ((cmpL T.notes.length) ++ ((T.notes.flatMap dM) ++ (bD (gL T.dW) 8)))))))))))).toArray⟩) V := fun V => (run_string_add_lists V _ _ (by omega) (by omega)).trans (by simp only [List.append_assoc])
 have l10 : (((bD T.exp.1.toNat 4) ++ ((cmpL T.ins.length) ++ ((T.ins.flatMap gZ) ++ ((cmpL T.outs.length) ++ ((T.outs.flatMap dH) ++ ((cmpL T.av.length) ++ ((T.anchor.1) ++ ((T.av.flatMap dM) ++ ((cmpL T.notes.length) ++ ((T.notes.flatMap dM) ++ (bD (gL T.dW) 8)))))))))))).length ≤ 22000 := by
  have := l9
  simp only [List.length_append] at this ⊢
  omega
 clear l0 l1 l2 l3 l4 l5 l6 l7 l8 l9 l10 b1 b2 b3 b4 b5 b6 b7 b8 b9 b10
 have HE := qh E0
 clear E0
 have hb : au (w.alloc (.cells (bf T Ai ci Ao co An cn At ct).toArray 92)) w.heap.size 0 (bf T Ai ci Ao co An cn At ct) := au.ah (ax.new _ _ _)
 have c1 := rW hb
 have c2 := nU hb
 have c4 := lG hb
 have c5 := lH hb
 have HK := qh (vw hb)
 have HB := qh hb
 clear hb
 simp only [Nat.zero_add] at c1 c2 c4 c5
 have HI := qh hx.1
 have HO := qh hx.2.1
 have HN := qh hx.2.2.1
 have HT := qh hx.2.2.2
 have LI := qh (show T.ins.length ≤ 1000000 by omega)
 have LO := qh (show T.outs.length ≤ 1000000 by omega)
 have LN := qh (show T.av.length ≤ 1000000 by omega)
 have LT := qh (show T.notes.length ≤ 1000000 by omega)
 have HH := qh h
 obtain ⟨m, hm⟩ : ∃ m : Nat, max T.ins.length (max T.outs.length (max T.av.length T.notes.length)) = m := ⟨_, rfl⟩
 have hmax : ∀ W ts t, (Builtin.max_ ts t #[.int .i64 T.ins.length, .int .i64 T.outs.length, .int .i64 T.av.length, .int .i64 T.notes.length]).run Tryz.prog W = .ok (.int .i64 (m : Int)) W := fun W ts t => hm ▸ tY ts t _ _ _ _ W
 have hd : decide ((40 : Int) < m) = false := by simp; omega
 clear hm hx h
 go_enter Tryz.func68, Tryz.ntmps68
 go_wp2_with ((with_reducible refine az 23 ?_); refine eH.af rfl (.tmp 23) rfl w.heap.size 3 rfl T.anchor (by simpa using HK.out) ?_)
 refine (jI T.anchor _).mono ?_
 rintro e w1 ⟨rfl, b1⟩
 have B1 : Below w.heap.size w w1 := ((Below.refl _ _).alloc (Nat.le_refl _) _).trans (b1.mono (by simp))
 have qL : w.heap.size < w1.heap.size := by have := b1.size; simp at this; omega
 have LB : ∀ w', From w1 w' → Below w.heap.size w w' := fun w' hC => B1.trans (hC.below.mono B1.size)
 have LR : ∀ w', From w1 w' → au w' w.heap.size 0 (bf T Ai ci Ao co An cn At ct) := fun w' hC => (HB.out.below b1 (by simp)).below hC.below qL
 have WB := qh (fun (w' : World) (hC : From w1 w') => (show w'.cell? ⟨w.heap.size, 0, none⟩ = some (.int .u32 T.exp.1) from by simpa using F5 (LR w' hC)))
 have QN := qh (fun (w' : World) (hC : From w1 w') => (show w'.cell? ⟨w.heap.size, 1, none⟩ = some (.slice Ai T.ins.length ci) from by simpa using rW (LR w' hC)))
 have FO := qh (fun (w' : World) (hC : From w1 w') => (show w'.cell? ⟨w.heap.size, 2, none⟩ = some (.slice Ao T.outs.length co) from by simpa using nU (LR w' hC)))
 have zy := qh (fun (w' : World) (hC : From w1 w') => (show w'.cell? ⟨w.heap.size, 35, none⟩ = some (.slice An T.av.length cn) from by simpa using lG (LR w' hC)))
 have zz := qh (fun (w' : World) (hC : From w1 w') => (show w'.cell? ⟨w.heap.size, 36, none⟩ = some (.slice At T.notes.length ct) from by simpa using lH (LR w' hC)))
 have WC := qh (fun (w' : World) (hC : From w1 w') => (show w'.cell? ⟨w.heap.size, 37, none⟩ = some (.int .i64 T.dW.1) from by simpa using F6 (LR w' hC)))
 have RI := qh (fun (w' : World) (hC : From w1 w') => (HH.out.ins.below (LB w' hC)).more (LB w' hC).size)
 have RO := qh (fun (w' : World) (hC : From w1 w') => (HH.out.outs.below (LB w' hC)).more (LB w' hC).size)
 have RN := qh (fun (w' : World) (hC : From w1 w') => (HH.out.av.below (LB w' hC)).more (LB w' hC).size)
 have RT := qh (fun (w' : World) (hC : From w1 w') => (HH.out.notes.below (LB w' hC)).more (LB w' hC).size)
 have HLB := qh LB
 clear LB LR c1 c2 c4 c5 b1 B1 qL HB HK HH
 go_wp2_with fail
 refine fE (by kernel_rfl) (by kernel_rfl) ?_
 repeat (first
  | ((with_reducible refine bI 30 ?_); refine aN (by rfl) 24 (.tmp 30) rfl ⟨w.heap.size, 0, none⟩ rfl (.int .u32 T.exp.1) Tryz.isAgg24 WB.out ?_; simp only [Act.put, List.setIfInBounds_toArray, List.set_cons_succ, List.set_cons_zero])
  | ((with_reducible refine bI 33 ?_); refine aN (by rfl) 89 (.tmp 33) rfl ⟨w.heap.size, 1, none⟩ rfl (.slice Ai T.ins.length ci) Tryz.isAgg89 QN.out ?_; simp only [Act.put, List.setIfInBounds_toArray, List.set_cons_succ, List.set_cons_zero])
  | ((with_reducible refine bI 37 ?_); refine aN (by rfl) 89 (.tmp 37) rfl ⟨w.heap.size, 1, none⟩ rfl (.slice Ai T.ins.length ci) Tryz.isAgg89 QN.out ?_; simp only [Act.put, List.setIfInBounds_toArray, List.set_cons_succ, List.set_cons_zero])
  | ((with_reducible refine bI 41 ?_); refine aN (by rfl) 90 (.tmp 41) rfl ⟨w.heap.size, 2, none⟩ rfl (.slice Ao T.outs.length co) Tryz.isAgg90 FO.out ?_; simp only [Act.put, List.setIfInBounds_toArray, List.set_cons_succ, List.set_cons_zero])
  | ((with_reducible refine bI 45 ?_); refine aN (by rfl) 90 (.tmp 45) rfl ⟨w.heap.size, 2, none⟩ rfl (.slice Ao T.outs.length co) Tryz.isAgg90 FO.out ?_; simp only [Act.put, List.setIfInBounds_toArray, List.set_cons_succ, List.set_cons_zero])
  | ((with_reducible refine bI 49 ?_); refine aN (by rfl) 22 (.tmp 49) rfl ⟨w.heap.size, 35, none⟩ rfl (.slice An T.av.length cn) Tryz.isAgg22 zy.out ?_; simp only [Act.put, List.setIfInBounds_toArray, List.set_cons_succ, List.set_cons_zero])
  | ((with_reducible refine bI 55 ?_); refine aN (by rfl) 22 (.tmp 55) rfl ⟨w.heap.size, 35, none⟩ rfl (.slice An T.av.length cn) Tryz.isAgg22 zy.out ?_; simp only [Act.put, List.setIfInBounds_toArray, List.set_cons_succ, List.set_cons_zero])
  | ((with_reducible refine bI 59 ?_); refine aN (by rfl) 22 (.tmp 59) rfl ⟨w.heap.size, 36, none⟩ rfl (.slice At T.notes.length ct) Tryz.isAgg22 zz.out ?_; simp only [Act.put, List.setIfInBounds_toArray, List.set_cons_succ, List.set_cons_zero])
  | ((with_reducible refine bI 63 ?_); refine aN (by rfl) 22 (.tmp 63) rfl ⟨w.heap.size, 36, none⟩ rfl (.slice At T.notes.length ct) Tryz.isAgg22 zz.out ?_; simp only [Act.put, List.setIfInBounds_toArray, List.set_cons_succ, List.set_cons_zero])
  | ((with_reducible refine bI 67 ?_); refine aN (by rfl) 2 (.tmp 67) rfl ⟨w.heap.size, 37, none⟩ rfl (.int .i64 T.dW.1) Tryz.isAgg2 WC.out ?_; simp only [Act.put, List.setIfInBounds_toArray, List.set_cons_succ, List.set_cons_zero])
  | (go_big_quiet_want; go_big_quiet_op; refine ⟨_, fun _ _ => by with_reducible rfl, ?_⟩; go_big_quiet_on)
  | go_big_quiet_step ((intro hC; first
   | (go_at_call 115; with_reducible exact (sD T.exp _).mono fun _ _ h => ⟨h.1, hC.call h.2⟩)
   | (go_at_call 116; with_reducible exact (wG Ai T.ins.length ci LI.out _).mono fun _ _ h => ⟨h.1, hC.call h.2⟩)
   | (go_at_call 117; with_reducible exact (yO Ai ci T.ins _ (RI.out _ hC) (by have := HI.out; omega)).mono fun _ _ h => ⟨h.1, hC.call h.2⟩)
   | (go_at_call 119; with_reducible exact (uP Ao T.outs.length co LO.out _).mono fun _ _ h => ⟨h.1, hC.call h.2⟩)
   | (go_at_call 120; with_reducible exact (wB Ao co T.outs _ (RO.out _ hC) (by have := HO.out; omega)).mono fun _ _ h => ⟨h.1, hC.call h.2⟩)
   | (go_at_call 122; with_reducible exact (kV An T.av.length cn LN.out _).mono fun _ _ h => ⟨h.1, hC.call h.2⟩)
   | (go_at_call 122; with_reducible exact (kV At T.notes.length ct LT.out _).mono fun _ _ h => ⟨h.1, hC.call h.2⟩)
   | (go_at_call 123; with_reducible exact (mK An cn T.av _ (RN.out _ hC) (by have := HN.out; omega)).mono fun _ _ h => ⟨h.1, hC.call h.2⟩)
   | (go_at_call 123; with_reducible exact (mK At ct T.notes _ (RT.out _ hC) (by have := HT.out; omega)).mono fun _ _ h => ⟨h.1, hC.call h.2⟩)
   | (go_at_call 124; with_reducible exact (sS T.dW _).mono fun _ _ h => ⟨h.1, hC.call h.2⟩))))
 refine wpQuiet_nil ?_
 intro w9 hC
 go_wp2_with fail
 go_ret2
 rw [HE.out]
 exact ⟨rfl, HLB.out _ hC⟩
theorem Tp (w : World) (h : wm w w.heap.size T Ai ci Ao co An cn At ct) :
 Calls Tryz.prog 68 #[.agg (bf T Ai ci Ao co An cn At ct).toArray] w fun e w' => e = .returned (q9 (fA T)) ∧ Below w.heap.size w w' := by
 by_cases hx : T.ins.length ≤ 40 ∧ T.outs.length ≤ 40 ∧ T.av.length ≤ 40 ∧ T.notes.length ≤ 40
 ·by_cases h0 : T.av.length = 0
  ·by_cases ha : T.anchor = ai
   ·exact PT w h hx h0 ha
   ·exact Tn w h hx h0 ha
  ·exact PS w h hx (by omega)
 ·exact PU w (by omega)
end
end
section
open Go.RowKit
def sJ (T : dX) : Bool := decide (60 < T.ins.length ∨ 60 < T.outs.length ∨ 60 < T.av.length ∨ 60 < T.notes.length)
end
section
open Go.RowKit
structure aY where
 T : dX
 Ai : Option Addr
 ci : Nat
 Ao : Option Addr
 co : Nat
 An : Option Addr
 cn : Nat
 At : Option Addr
 ct : Nat
def aY.cells (a : aY) : List Value := bf a.T a.Ai a.ci a.Ao a.co a.An a.cn a.At a.ct
def aY.In (w : World) (B : Nat) (a : aY) : Prop := wm w B a.T a.Ai a.ci a.Ao a.co a.An a.cn a.At a.ct
theorem aY.len (a : aY) : a.cells.length = 38 := Dv
theorem aY.one (a : aY) : ∀ v ∈ a.cells, v.oneCell' = true := by
 intro v hv
 simp only [aY.cells, bf, List.mem_cons, List.mem_append, List.not_mem_nil, or_false] at hv
 rcases hv with rfl | rfl | rfl | h | rfl | rfl | rfl
 ·rfl
 ·rfl
 ·rfl
 ·exact fI _ v h
 ·rfl
 ·rfl
 ·rfl
theorem di : cZ Tryz.prog 92 aY.cells 38 := ⟨by kernel_rfl, aY.len, aY.one, Tryz.isAgg92⟩
theorem aY.In.below {w w' : World} {B : Nat} {a : aY} (h : a.In w B) (hb : Below B w w') : a.In w' B := wm.below h hb
theorem aY.In.more {w : World} {B B' : Nat} {a : aY} (h : a.In w B) (hB : B ≤ B') : a.In w B' := wm.more h hB
theorem aY.In.on {w w' : World} {B : Nat} {a : aY} (h : a.In w B) (hb : Below B w w') (hB : B ≤ w.heap.size) : a.In w' w'.heap.size := (h.below hb).more (Nat.le_trans hB hb.size)
section
variable {w : World} {g : Nat} {a : aY}
theorem aY.c0 (h : au w g 0 a.cells) : w.cell? ⟨g, 0, none⟩ = some (.int .u32 a.T.exp.1) := F5 h
theorem aY.c1 (h : au w g 0 a.cells) : w.cell? ⟨g, 1, none⟩ = some (.slice a.Ai a.T.ins.length a.ci) := by have := rW h; rwa [Nat.zero_add] at this
theorem aY.c2 (h : au w g 0 a.cells) : w.cell? ⟨g, 2, none⟩ = some (.slice a.Ao a.T.outs.length a.co) := by have := nU h; rwa [Nat.zero_add] at this
theorem aY.c4 (h : au w g 0 a.cells) : w.cell? ⟨g, 35, none⟩ = some (.slice a.An a.T.av.length a.cn) := by have := lG h; rwa [Nat.zero_add] at this
theorem aY.c5 (h : au w g 0 a.cells) : w.cell? ⟨g, 36, none⟩ = some (.slice a.At a.T.notes.length a.ct) := by have := lH h; rwa [Nat.zero_add] at this
theorem aY.c6 (h : au w g 0 a.cells) : w.cell? ⟨g, 37, none⟩ = some (.int .i64 a.T.dW.1) := by have := F6 h; rwa [Nat.zero_add] at this
end
theorem uN (a : aY) (w : World) (h : a.In w w.heap.size) :
 Calls Tryz.prog 68 #[.agg a.cells.toArray] w fun e w' => e = .returned (q9 (fA a.T)) ∧ Below w.heap.size w w' := Tp w h
end
section
open Go.RowKit
def gy (T : dX) : Bool := match T.ins with
 | [p] => decide (p.1 = ai)
 | _ => false
theorem Qc (T : dX) (h : T.ins.length ≠ 1) : gy T = false := by
 unfold gy
 split
 ·rename_i p hp; rw [hp] at h; simp at h
 ·rfl
theorem Ld (T : dX) (h : T.ins.length = 1) : gy T = decide ((T.ins[0]'(by omega)).1 = ai) := by
 obtain ⟨q, hq⟩ := List.length_eq_one_iff.1 h
 simp [gy, hq]
theorem zf (a : aY) (w : World) (h : a.In w w.heap.size) :
 Calls Tryz.prog 198 #[.agg a.cells.toArray] w fun e w' => e = .returned (.bool (gy a.T)) ∧ Below w.heap.size w w' := by
 have hb : au (w.alloc (.cells a.cells.toArray 92)) w.heap.size 0 a.cells := au.ah (ax.new _ _ _)
 have c1 := aY.c1 hb
 clear hb
 by_cases h1 : a.T.ins.length = 1
 ·have hB : Below w.heap.size w (w.alloc (.cells a.cells.toArray 92)) := (Below.refl _ _).alloc (Nat.le_refl _) _
  obtain ⟨g, o, hA, hg, hc⟩ := (aK.below h.ins hB).at (fT _) (i := 0) (by omega)
  rw [hA] at c1
  clear hA
  obtain ⟨p, hp⟩ : ∃ p, a.T.ins[0] = p := ⟨_, rfl⟩
  rw [hp] at hc
  have hcf : gy a.T = decide (p.1 = ai) := by rw [Ld _ h1, hp]
  rw [hcf]
  have hk : au (w.alloc (.cells a.cells.toArray 92)) g o (ak p.1) := by simpa using hc.ko
  have HK := qh hk
  have hd : (a.T.ins.length == 1) = true := by simpa using h1
  rw [h1] at c1
  clear hc hp hcf hk h1 hd h hB
  go_enter Tryz.func198, Tryz.ntmps198
  go_wp2_with (first
   | ((with_reducible refine fq 11 ?_); refine eH.af (by rfl) (.tmp 11) rfl g o rfl p.1 HK.out ?_)
   | ((with_reducible refine xB 12 13 ?_); refine iZ (by rfl) 26 26 (.tmp 12) (.tmp 13) rfl (ak p.1).toArray (ak ai).toArray rfl (congrArg Value.agg vJ) (by kernel_rfl) (decide (p.1 = ai)) (fun V => jw _ _ V) ?_; simp only [Act.put, List.setIfInBounds_toArray, List.set_cons_succ, List.set_cons_zero]))
  go_ret
  exact ⟨rfl, (Below.refl _ _).alloc (Nat.le_refl _) _⟩
 ·rw [Qc _ h1]
  have hd : ((a.T.ins.length : Int) == 1) = false := beq_eq_false_iff_ne.mpr (by omega)
  clear h1 h
  go_enter Tryz.func198, Tryz.ntmps198
  go_wp2
  go_ret
  exact ⟨rfl, (Below.refl _ _).alloc (Nat.le_refl _) _⟩
end
section
open Go.RowKit
theorem EX (x y : aS × aQ .u32) (V : World) : (Op.equal 142 (.agg (aR .u32 x).toArray) (.agg (aR .u32 y).toArray)).run Tryz.prog V = .ok (decide (x = y)) V :=
 JG (f0 := (Tryz.prog.fieldsOf 142)[0]!) (f1 := (Tryz.prog.fieldsOf 142)[1]!) V (by kernel_rfl) (by kernel_rfl) (by decide +kernel) (by decide +kernel) (by kernel_rfl) (by kernel_rfl) (by kernel_rfl) (by kernel_rfl) Tryz.underlying26 Tryz.underlying5 (by kernel_rfl) (by kernel_rfl) Tryz.underlying24 x y
end
section
open Go.RowKit
structure aD where
 at_ : aS × aQ .u32
 out : aQ .i64 × aS
 h : aQ .u32
 b : Bool
deriving DecidableEq
def aX (c : aD) : List Value := aR .u32 c.at_ ++ (dR .i64 c.out ++ [.int .u32 c.h.1, .bool c.b])
theorem bR (c : aD) : (aX c).length = 68 := by unfold aX; rw [List.length_append, List.length_append, fT, fU]; rfl
theorem lU (c : aD) : ∀ v ∈ aX c, v.oneCell' = true := by
 intro v hv
 unfold aX at hv
 rcases List.mem_append.1 hv with h | h
 ·exact vT _ _ v h
 ·rcases List.mem_append.1 h with h | h
  ·exact qP _ _ v h
  ·simp only [List.mem_cons, List.not_mem_nil, or_false] at h
   rcases h with rfl | rfl <;> rfl
theorem jg : cu Tryz.prog 42 317 aX 68 := ⟨Tryz.underlying42, by kernel_rfl, bR, lU, Tryz.isAgg317, by omega⟩
theorem pQ : cZ Tryz.prog 317 aX 68 := ⟨jg.size, jg.len, jg.one, jg.agg⟩
theorem FW : cZ Tryz.prog 142 (aR .u32) 33 := ⟨jU.size, jU.len, jU.one, jU.agg⟩
section
variable {w : World} {g o : Nat} {c : aD}
theorem au.I9 (h : au w g o (aX c)) : au w g o (aR .u32 c.at_) := h.left
end
end
section
open Go.RowKit
abbrev FK := aS × aQ .u32
def Xm (c : aD) (h : aQ .u32) : Bool := !c.b || decide (c.h.1 + 3 ≤ h.1)
end
section
open Go.RowKit
def dh : aD := ⟨(ai, ⟨0, by decide⟩), (⟨0, by decide⟩, ai), ⟨0, by decide⟩, false⟩
abbrev lQ (l : List aD) (p : FK) : Option aD := gW aD.at_ l p
theorem rT : (aX dh).toArray.size = 67 + 1 := by rw [List.size_toArray, bR]
end
section
open Go.RowKit
def jO (a b : FK) : Bool := LV a.1 b.1 || (decide (a.1 = b.1) && decide (a.2.1 < b.2.1))
theorem Xz : Qy jO where
 irrefl a := by unfold jO; rw [yL]; simp
 trans {a b c} h1 h2 := by
  unfold jO at *
  rw [Bool.or_eq_true, Bool.and_eq_true, decide_eq_true_iff, decide_eq_true_iff] at *
  rcases h1 with h1 | ⟨e1, l1⟩
  ·rcases h2 with h2 | ⟨e2, l2⟩
   ·exact .inl (Km h1 h2)
   ·exact .inl (e2 ▸ h1)
  ·rcases h2 with h2 | ⟨e2, l2⟩
   ·exact .inl (e1 ▸ h2)
   ·exact .inr ⟨e1.trans e2, by omega⟩
 tri {a b} h1 h2 := by
  unfold jO at *
  rw [Bool.or_eq_false_iff, Bool.and_eq_false_iff, decide_eq_false_iff_not, decide_eq_false_iff_not] at *
  have e : a.1 = b.1 := SS h1.1 h2.1
  have h3 : ¬ a.2.1 < b.2.1 := by
   rcases h1.2 with h | h
   ·exact absurd e h
   ·exact h
  have h4 : ¬ b.2.1 < a.2.1 := by
   rcases h2.2 with h | h
   ·exact absurd e.symm h
   ·exact h
  exact Prod.ext e (Subtype.ext (by omega))
end
section
open Go.RowKit
theorem Ls (t : TypeId) (ht : t = 142) (k : aS) (z : aQ .u32) : Tryz.prog.built t [(0, .agg (ak k).toArray), (1, .int .u32 z.1)] = some (aR .u32 (k, z)).toArray := by
 subst ht
 obtain ⟨l, hl⟩ := k
 iterate 32 (rcases l with _ | ⟨b, l⟩; · simp at hl)
 rcases l with _ | ⟨b, l⟩
 ·kernel_rfl
 ·simp at hl
end
section
open Go.RowKit
def iw (id : aS) (h : aQ .u32) (b : Bool) : Nat → List (aQ .i64 × aS) → List aD
 | _, [] => []
 | i, o :: os => ⟨(id, dF i), o, h, b⟩ :: iw id h b (i + 1) os
theorem kY (id : aS) (h : aQ .u32) (b : Bool) : ∀ (os : List (aQ .i64 × aS)) (i : Nat), (iw id h b i os).length = os.length
 | [], _ => rfl
 | _ :: os, i => congrArg (· + 1) (kY id h b os (i + 1))
def Aa (l : List aD) (T : dX) (h : aQ .u32) : Option (List aD × List aD) :=
 if gy T then some (l, []) else takeC aD.at_ (fun c => Xm c h) l T.ins
def iH (l : List aD) (T : dX) (id : aS) (h : aQ .u32) : Except Int (List aD × List aD) := match Aa l T h with
 | none => .error 160
 | some x => match iX aD.at_ jO x.1 (iw id h (gy T) 0 T.outs) with
  | none => .error 4
  | some r => .ok (r, x.2)
end
section
open Go.RowKit
theorem u6 : ((Tryz.prog.info? 317).bind (·.zero)) = some (.agg (aX dh).toArray) := by kernel_rfl
abbrev oV (l : List aD) : Prop := je aD.at_ jO l
end
section
structure bK where
 prev : aS
 root : aS
 iR : aQ .u32
 bG : List dX
def pI (B : bK) : Prop := 0 < B.bG.length ∧ B.bG.length ≤ 30 ∧ ∀ T ∈ B.bG, ry T
def yB : Rd Nat := fun s => match fH s with
 | (n, r, e) => if e = 0 then (if n = 0 then .error 110 else if 30 < n then .error 51 else .ok (n, r)) else .error e
theorem AQ : Good cmpL yB (fun n => 0 < n ∧ n ≤ 30) where
 fwd := fun n rest v => by
  unfold yB
  rw [Ah n rest (by omega)]
  simp only [if_true]
  rw [if_neg (by omega), if_neg (by omega)]
 bwd := fun s a r e => by
  unfold yB at e
  rcases mG s with ⟨n, r', h1, h2, _⟩ | h1 | h1
  ·rw [h1] at e
   simp only [if_true] at e
   split at e
   ·cases e
   ·split at e
    ·cases e
    ·injection e with e
     injection e with e2 e3
     subst e2 e3
     exact ⟨⟨by omega, by omega⟩, h2.symm⟩
  ·rw [h1] at e
   simp at e
  ·rw [h1] at e
   simp at e
 cut := fun n i _ hi => by
  unfold yB
  rw [Ag n i hi]
  rfl
def Q9 (l : List dX) : List UInt8 := cmpL l.length ++ l.flatMap vz
def Mj : Rd (List dX) := fK (·.2) (bT yB (dw nV))
theorem Pv : Good Q9 Mj (fun l => (0 < l.length ∧ l.length ≤ 30) ∧ ∀ T ∈ l, ry T) :=
 (AQ.fZ (fun n _ => Cm.list n)).map (·.2) (fun l => (l.length, l)) (fun _ _ => rfl) (fun a v => by obtain ⟨n, l⟩ := a; exact Prod.ext v.2.1 rfl) (fun _ v => ⟨v.1, rfl, v.2⟩) (fun a v => ⟨by rw [v.2.1]; exact v.1, v.2.2⟩)
abbrev Y2 := aS × aS × aQ .u32 × List dX
def Uo (p : Y2) : bK := ⟨p.1, p.2.1, p.2.2.1, p.2.2.2⟩
def XC (B : bK) : Y2 := (B.prev, B.root, B.iR, B.bG)
def nu (B : bK) : List UInt8 := B.prev.1 ++ (B.root.1 ++ (bD B.iR.1.toNat 4 ++ Q9 B.bG))
def Fz : Rd bK := fK Uo (bT gD fun _ => bT gD fun _ => bT rU fun _ => Mj)
theorem Px : Good nu Fz pI := by
 have h := dn.fZ fun _ _ => dn.fZ fun _ _ => uH.fZ fun _ _ => Pv
 exact h.map (V' := pI) Uo XC (fun _ _ => rfl) (fun _ _ => rfl)
  (fun B v => ⟨trivial, trivial, trivial, ⟨v.1, v.2.1⟩, v.2.2⟩) (fun p v => ⟨v.2.2.2.1.1, v.2.2.2.1.2, v.2.2.2.2⟩)
def jy (s : List UInt8) : Except Int bK := match Fz s with
 | .error e => .error e
 | .ok (B, r) => if r = [] then .ok B else .error 50
theorem Ho (B : bK) (h : pI B) : jy (nu B) = .ok B := by
 unfold jy
 have := Px.fwd B [] h
 rw [List.append_nil] at this
 rw [this]
 rfl
theorem zl (B : bK) (h : pI B) : (nu B).length = 69 + (B.bG.map fun T => (vz T).length).sum := by
 unfold nu Q9
 simp only [List.length_append, B.prev.2, B.root.2, bQ, lV _ (Nat.le_trans h.2.1 (by omega)), List.length_flatMap]
 omega
end
section
open Go.RowKit
structure Past (g : Nat) (w w' : World) : Prop where
 os : w'.os = w.os
 tape : w'.tape = w.tape
 output : w'.output = w.output
 size : w.heap.size ≤ w'.heap.size
 block : ∀ i, i < w.heap.size → i ≠ g → w'.heap[i]? = w.heap[i]?
section
variable {g : Nat} {w w1 w2 : World}
theorem Past.trans (h : Past g w w1) (k : Past g w1 w2) : Past g w w2 :=
 ⟨k.os.trans h.os, k.tape.trans h.tape, k.output.trans h.output, Nat.le_trans h.size k.size, fun i hi hg => (k.block i (Nat.lt_of_lt_of_le hi h.size) hg).trans (h.block i hi hg)⟩
theorem Past.of_below (h : Below w.heap.size w w1) : Past g w w1 := ⟨h.os, h.tape, h.output, h.size, fun i hi _ => h.block i hi⟩
theorem Past.kM (h : Only [g] w w1) : Past g w w1 := ⟨h.os, h.tape, h.output, Nat.le_of_eq h.size.symm, fun i _ hg => h.block i (by simpa using hg)⟩
theorem Past.blk (h : Past g w w1) {k : Nat} {t : TypeId} {cs : Array Value} (hb : ax w k t cs) (hk : k ≠ g) : ax w1 k t cs := (h.block k hb.lt hk).trans hb
theorem Past.below (h : Past g w w1) {B : Nat} (hB : B ≤ g) (hw : B ≤ w.heap.size) : Below B w w1 := ⟨h.os, h.tape, h.output, h.size, fun i hi => h.block i (by omega) (by omega)⟩
theorem Past.drewN (h : Past g w w1) (n : Nat) : Past g w (w1.drewN n) := ⟨h.os, h.tape, h.output, h.size, h.block⟩
end
abbrev Rb (w : World) (g : Nat) (l : List UInt8) : Prop := ax w g 288 #[.string ⟨l.toArray⟩]
def rA {α : Type} (V : α → Value → World → Prop) (g : Nat) (w : World) (x : Except Int (α × List UInt8)) (e : Ending) (w' : World) : Prop :=
 match x with
 | .ok (a, r) => ∃ v, e = .returned v ∧ V a v w' ∧ Rb w' g r ∧ Past g w w'
 | .error er => e = .panicked [{ v := .iface 30 (.int .i64 er), recovered := false }] ∧ Past g w w'
def VU (n : Nat) (v : Value) (_ : World) : Prop := v = .int .u64 n
def VI (n : Nat) (v : Value) (_ : World) : Prop := v = .int .i64 n
def VK (k : aS) (v : Value) (_ : World) : Prop := v = .agg (ak k).toArray
theorem Pz (wd : Nat) (h1 : 1 ≤ wd) (h8 : wd ≤ 8) (l : List UInt8) : (l.length < wd ∧ eZ l wd = (0, [], 30) ∧ jC wd l = .error 30) ∨ (¬ l.length < wd ∧ eZ l wd = (bO (l.take wd), l.drop wd, 0) ∧ jC wd l = .ok (bO (l.take wd), l.drop wd)) := by
 unfold eZ jC
 by_cases h : l.length < wd
 ·exact .inl ⟨h, by rw [if_neg (by omega), if_pos (by omega)], by rw [if_pos h]⟩
 ·exact .inr ⟨h, by rw [if_neg (by omega), if_neg (by omega)]; rfl, by rw [if_neg h]⟩
theorem PE (l : List UInt8) (hs : l.length ≤ 1000000) (wd : Int) (p : Addr) (w : World) (hp : w.cell? p = some (.int .i64 wd)) :
 Calls Tryz.prog 338 #[.string ⟨l.toArray⟩, .pointer (some p)] w fun e w' => e = .returned (kC (eZ l wd)) ∧ Below w.heap.size w w' := by
 have hg : ∀ w, Calls Tryz.prog 127 #[.string ⟨l.toArray⟩, .int .i64 wd] w fun e w' => e = .returned (kC (eZ l wd)) ∧ Below w.heap.size w w' := I4 ⟨l.toArray⟩ (by rw [gG]; exact hs) wd
 obtain ⟨x, hx⟩ : ∃ x, eZ l wd = x := ⟨_, rfl⟩
 rw [hx] at hg ⊢
 clear hx
 have HG := qh hg
 clear hg
 go_enter Tryz.func338, Tryz.ntmps338
 go_wp2_with fail
 refine (HG.out _).mono ?_
 rintro e w1 ⟨rfl, b1⟩
 clear HG hp
 unfold kC
 go_wp2
 go_ret3
 exact ⟨rfl, b1⟩
theorem Jz (l : List UInt8) (hs : l.length ≤ 1000000) (wd : Nat) (h1 : 1 ≤ wd) (h8 : wd ≤ 8) (g c : Nat) (w : World) (hr : Rb w g l) (hp : w.cell? ⟨c, 0, none⟩ = some (.int .i64 wd)) :
 Calls Tryz.prog 325 #[.pointer (some ⟨g, 0, none⟩), .func (.func 338) #[] #[.pointer (some ⟨c, 0, none⟩)]] w (rA VU g w (jC wd l)) := by
 have hc : w.cell? ⟨g, 0, none⟩ = some (.string ⟨l.toArray⟩) := hr.cell 0
 have HR := qh hr
 have hC := PE l hs wd ⟨c, 0, none⟩ w hp
 clear hr hp
 rcases Pz wd h1 h8 l with ⟨hl, hf, hg⟩ | ⟨hl, hf, hg⟩
 ·rw [hf] at hC
  rw [hg]
  have HC := qh hC
  clear hf hg hl hC
  go_enter Tryz.func325, Tryz.ntmps325
  go_wp2_with fail
  refine HC.out.mono ?_
  rintro e w1 ⟨rfl, b1⟩
  have P1 := qh (Past.of_below (g := g) b1)
  clear hc HC b1 HR
  unfold kC
  go_wp2
  exact ⟨rfl, rfl, P1.out⟩
 ·rw [hf] at hC
  rw [hg]
  clear hf hg hl
  obtain ⟨n, hn⟩ : ∃ n, bO (l.take wd) = n := ⟨_, rfl⟩
  obtain ⟨r, hr⟩ : ∃ r, l.drop wd = r := ⟨_, rfl⟩
  rw [hn, hr] at hC ⊢
  have HC := qh hC
  clear hn hr hC
  go_enter Tryz.func325, Tryz.ntmps325
  go_wp2_with fail
  refine HC.out.mono ?_
  rintro e w1 ⟨rfl, b1⟩
  have K1 := qh (aa b1 HR.out HR.out.lt)
  have P1 := qh (Past.of_below (g := g) b1)
  clear hc HC b1 HR
  unfold kC
  have kc := K1.out.cell 0
  have kz := K1.out.frozen 0
  go_wp2_with ((with_reducible refine ag 25 23 ?_); refine aF rfl 9 (.tmp 25) (.tmp 23) rfl rfl g (.string ⟨r.toArray⟩) rfl rfl rfl 288 _ K1.out (by kernel_rfl) ?_; intro w2 o2 b2)
  go_ret
  exact ⟨_, rfl, rfl, b2, P1.out.trans (Past.kM o2)⟩
theorem UK (l : List UInt8) (hs : l.length ≤ 1000000) (wd : Nat) (h1 : 1 ≤ wd) (h8 : wd ≤ 8) (g : Nat) (w : World) (hr : Rb w g l) :
 Calls Tryz.prog 324 #[.pointer (some ⟨g, 0, none⟩), .int .i64 wd] w (rA VU g w (jC wd l)) := by
 have ED : ∀ (fn : Fn) (first cap : Array Value) (w : World), (Instr.makeFunc fn first cap).run Tryz.prog w = .ok (.func fn first cap) w := fun _ _ _ _ => rfl
 have hG := Jz l hs wd h1 h8 g w.heap.size (w.alloc (.cells #[.int .i64 wd] 3)) (hr.alloc _) ((ax.new w _ _).cell 0)
 have hP : Past g w (w.alloc (.cells #[.int .i64 wd] 3)) := Past.of_below ((Below.refl _ _).alloc (Nat.le_refl _) _)
 have HP := qh hP
 clear hr hP
 cases hq : jC wd l with
 | error er =>
  rw [hq] at hG
  have HG := qh hG
  clear hq hG
  go_enter Tryz.func324, Tryz.ntmps324
  go_wp2_with fail
  refine HG.out.mono ?_
  rintro e w1 ⟨rfl, p1⟩
  exact ⟨rfl, rfl, HP.out.trans p1⟩
 | ok x =>
  obtain ⟨n, r⟩ := x
  rw [hq] at hG
  have HG := qh hG
  clear hq hG
  go_enter Tryz.func324, Tryz.ntmps324
  go_wp2_with fail
  refine HG.out.mono ?_
  rintro e w1 ⟨v, rfl, rfl, b1, p1⟩
  have B1 := qh b1
  clear b1
  go_wp2
  go_ret
  exact ⟨_, rfl, rfl, B1.out, HP.out.trans p1⟩
def aaB (z : aQ .u32) (v : Value) (_ : World) : Prop := v = .int .u32 z.1
theorem Um (l : List UInt8) (hs : l.length ≤ 1000000) (g : Nat) (w : World) (hr : Rb w g l) :
 Calls Tryz.prog 297 #[.pointer (some ⟨g, 0, none⟩)] w (rA aaB g w (rU l)) := by
 have hG : Calls Tryz.prog 324 #[.pointer (some ⟨g, 0, none⟩), .int .i64 4] w (rA VU g w (jC 4 l)) := UK l hs 4 (by omega) (by omega) g w hr
 clear hr
 cases hq : jC 4 l with
 | error er =>
  rw [show rU l = .error er by unfold rU fK; rw [hq]]
  rw [hq] at hG
  have HG := qh hG
  clear hq hG
  go_enter Tryz.func297, Tryz.ntmps297
  go_wp2_with fail
  refine HG.out.mono ?_
  rintro e w1 ⟨rfl, p1⟩
  exact ⟨rfl, rfl, p1⟩
 | ok x =>
  obtain ⟨n, r⟩ := x
  have hn : n < 4294967296 := (nL 4).bwd _ _ _ hq |>.1
  rw [show rU l = .ok (dF n, r) by unfold rU fK; rw [hq]]
  rw [hq] at hG
  have HC := qh (show Value.int .u32 ((n : Int) % 4294967296) = .int .u32 (dF n).1 from congrArg _ (by show (n : Int) % 4294967296 = ((n % 4294967296 : Nat) : Int); omega))
  have HG := qh hG
  clear hq hG hn
  go_enter Tryz.func297, Tryz.ntmps297
  go_wp2_with fail
  refine HG.out.mono ?_
  rintro e w1 ⟨v, rfl, rfl, b1, p1⟩
  have B1 := qh b1
  clear b1
  go_wp2
  go_ret
  exact ⟨_, rfl, HC.out, B1.out, p1⟩
def aaC (z : aQ .i64) (v : Value) (_ : World) : Prop := v = .int .i64 z.1
theorem Pj (l : List UInt8) (hs : l.length ≤ 1000000) (g : Nat) (w : World) (hr : Rb w g l) :
 Calls Tryz.prog 305 #[.pointer (some ⟨g, 0, none⟩)] w (rA aaC g w (yQ l)) := by
 have hG : Calls Tryz.prog 324 #[.pointer (some ⟨g, 0, none⟩), .int .i64 8] w (rA VU g w (jC 8 l)) := UK l hs 8 (by omega) (by omega) g w hr
 clear hr
 cases hq : jC 8 l with
 | error er =>
  rw [show yQ l = .error er by unfold yQ fK; rw [hq]]
  rw [hq] at hG
  have HG := qh hG
  clear hq hG
  go_enter Tryz.func305, Tryz.ntmps305
  go_wp2_with fail
  refine HG.out.mono ?_
  rintro e w1 ⟨rfl, p1⟩
  exact ⟨rfl, rfl, p1⟩
 | ok x =>
  obtain ⟨n, r⟩ := x
  have hn : n < 18446744073709551616 := (nL 8).bwd _ _ _ hq |>.1
  rw [show yQ l = .ok (tL n, r) by unfold yQ fK; rw [hq]]
  rw [hq] at hG
  have HC := qh (show Value.int .i64 (wrap64 (n : Int)) = .int .i64 (tL n).1 from congrArg _ (by unfold wrap64 tL; simp only; split <;> omega))
  have HG := qh hG
  clear hq hG hn
  go_enter Tryz.func305, Tryz.ntmps305
  go_wp2_with fail
  refine HG.out.mono ?_
  rintro e w1 ⟨v, rfl, rfl, b1, p1⟩
  have B1 := qh b1
  clear b1
  go_wp2
  go_ret
  exact ⟨_, rfl, HC.out, B1.out, p1⟩
end
section
open Go.RowKit
theorem Past.new {g k : Nat} {w w1 w2 : World} (h : Past g w w1) (o : Only [k] w1 w2) (hk : w.heap.size ≤ k) : Past g w w2 :=
 ⟨o.os.trans h.os, o.tape.trans h.tape, o.output.trans h.output, Nat.le_trans h.size (Nat.le_of_eq o.size.symm), fun i hi hg => (o.block i (by simp; omega)).trans (h.block i hi hg)⟩
def um (l : List UInt8) : Except Int (Nat × List UInt8) := match fH l with
 | (n, r, e) => if e = 0 then .ok (n, r) else .error e
theorem xm (l : List UInt8) : (∃ er, er ≠ 0 ∧ fH l = (0, [], er) ∧ um l = .error er) ∨ ∃ n r, fH l = (n, r, 0) ∧ um l = .ok (n, r) ∧ n < 2 ^ 64 := by
 unfold um
 rcases mG l with ⟨n, r, h, _, hn⟩ | h | h
 ·exact .inr ⟨n, r, h, by rw [h]; rfl, hn⟩
 ·exact .inl ⟨30, by decide, h, by rw [h]; rfl⟩
 ·exact .inl ⟨31, by decide, h, by rw [h]; rfl⟩
theorem JA (l : List UInt8) (hs : l.length ≤ 1000000) (g : Nat) (w : World) (hr : Rb w g l) :
 Calls Tryz.prog 325 #[.pointer (some ⟨g, 0, none⟩), .func (.func 81) #[] #[]] w (rA VU g w (um l)) := by
 have hc : w.cell? ⟨g, 0, none⟩ = some (.string ⟨l.toArray⟩) := hr.cell 0
 have HR := qh hr
 have hC : Calls Tryz.prog 81 #[.string ⟨l.toArray⟩] w fun e w' => e = .returned (kC (fH l)) ∧ Below w.heap.size w w' := DY ⟨l.toArray⟩ (by rw [gG]; exact hs) w
 clear hr
 rcases xm l with ⟨er, h0, hf, hg⟩ | ⟨n, r, hf, hg, hn⟩
 ·rw [hf] at hC
  rw [hg]
  have HC := qh hC
  have hd : (er == 0) = false := beq_eq_false_iff_ne.mpr h0
  clear hf hg hC h0
  go_enter Tryz.func325, Tryz.ntmps325
  go_wp2_with fail
  refine HC.out.mono ?_
  rintro e w1 ⟨rfl, b1⟩
  have P1 := qh (Past.of_below (g := g) b1)
  clear hc HC b1 HR
  unfold kC
  go_wp2
  exact ⟨rfl, rfl, P1.out⟩
 ·rw [hf] at hC
  rw [hg]
  have HC := qh hC
  clear hf hg hC hn
  go_enter Tryz.func325, Tryz.ntmps325
  go_wp2_with fail
  refine HC.out.mono ?_
  rintro e w1 ⟨rfl, b1⟩
  have K1 := qh (aa b1 HR.out HR.out.lt)
  have P1 := qh (Past.of_below (g := g) b1)
  clear hc HC b1 HR
  unfold kC
  have kc := K1.out.cell 0
  have kz := K1.out.frozen 0
  go_wp2_with ((with_reducible refine ag 25 23 ?_); refine aF rfl 9 (.tmp 25) (.tmp 23) rfl rfl g (.string ⟨r.toArray⟩) rfl rfl rfl 288 _ K1.out (by kernel_rfl) ?_; intro w2 o2 b2)
  go_ret
  exact ⟨_, rfl, rfl, b2, P1.out.trans (Past.kM o2)⟩
theorem uO (l : List UInt8) (hs : l.length ≤ 1000000) (g : Nat) (w : World) (hr : Rb w g l) :
 Calls Tryz.prog 299 #[.pointer (some ⟨g, 0, none⟩)] w (rA VI g w (nJ l)) := by
 have hG := JA l hs g w hr
 clear hr
 rcases xm l with ⟨er, h0, hf, hg⟩ | ⟨n, r, hf, hg, hn⟩
 ·rw [show nJ l = .error er by unfold nJ; rw [hf]; exact if_neg h0]
  rw [hg] at hG
  have HG := qh hG
  clear hf hg hG h0
  go_enter Tryz.func299, Tryz.ntmps299
  go_wp2_with fail
  refine HG.out.mono ?_
  rintro e w1 ⟨rfl, p1⟩
  exact ⟨rfl, rfl, p1⟩
 ·rw [hg] at hG
  have HG := qh hG
  by_cases Vz : 40 < n
  ·rw [show nJ l = .error 51 by unfold nJ; rw [hf]; simp [Vz]]
   have hd : decide ((40 : Int) < n) = true := by simp; omega
   clear hf hg hG hn Vz
   go_enter Tryz.func299, Tryz.ntmps299
   go_wp2_with fail
   refine HG.out.mono ?_
   rintro e w1 ⟨v, rfl, rfl, b1, p1⟩
   have P1 := qh p1
   clear b1 p1
   go_wp2
   exact ⟨rfl, rfl, P1.out⟩
  ·rw [show nJ l = .ok (n, r) by unfold nJ; rw [hf]; simp [Vz]]
   have hd : decide ((40 : Int) < n) = false := by simp; omega
   have HW := qh (show wrap64 (n : Int) = n by unfold wrap64; omega)
   clear hf hg hG hn Vz
   go_enter Tryz.func299, Tryz.ntmps299
   go_wp2_with fail
   refine HG.out.mono ?_
   rintro e w1 ⟨v, rfl, rfl, b1, p1⟩
   have P1 := qh p1
   have B1 := qh b1
   clear b1 p1
   go_wp2
   go_ret
   exact ⟨_, rfl, congrArg (Value.int .i64) HW.out, B1.out, P1.out⟩
theorem Pd (l : List UInt8) : (vL l = (List.replicate 32 0, [], 30) ∧ gD l = .error 30) ∨ ∃ (k : aS) (r : List UInt8), vL l = (k.1, r, 0) ∧ gD l = .ok (k, r) := by
 unfold vL gD
 by_cases h : l.length < 32
 ·exact .inl ⟨by rw [if_pos h], by rw [dif_pos h]⟩
 ·exact .inr ⟨⟨l.take 32, by rw [List.length_take]; omega⟩, l.drop 32, by rw [if_neg h], by rw [dif_neg h]⟩
theorem Jy (l : List UInt8) (hs : l.length ≤ 1000000) (g : Nat) (w : World) (hr : Rb w g l) :
 Calls Tryz.prog 326 #[.pointer (some ⟨g, 0, none⟩), .func (.func 75) #[] #[]] w (rA VK g w (gD l)) := by
 have hc : ∀ cs, (w.alloc (.cells cs 26)).cell? ⟨g, 0, none⟩ = some (.string ⟨l.toArray⟩) := fun cs => (hr.alloc _).cell 0
 have HR := qh (fun cs => (show Rb (w.alloc (.cells cs 26)) g l from hr.alloc _))
 have P0 := qh (fun cs => (show Past g w (w.alloc (.cells cs 26)) from Past.of_below ((Below.refl _ _).alloc (Nat.le_refl _) _)))
 have hC : ∀ w, Calls Tryz.prog 75 #[.string ⟨l.toArray⟩] w fun e w' => e = .returned (zL (vL l)) ∧ Below w.heap.size w w' := Fg ⟨l.toArray⟩ (by rw [gG]; exact hs)
 have hg4 : g ≠ w.heap.size := Nat.ne_of_lt hr.lt
 clear hr
 rcases Pd l with ⟨hf, hg⟩ | ⟨k, r, hf, hg⟩
 ·rw [hf] at hC
  rw [hg]
  have HC := qh hC
  clear hf hg hC
  go_enter Tryz.func326, Tryz.ntmps326
  go_wp2_with fail
  refine (HC.out _).mono ?_
  rintro e w1 ⟨rfl, b1⟩
  have P1 := qh ((P0.out _).trans (Past.of_below (g := g) b1))
  clear hc HC b1 HR
  unfold zL
  go_wp2_with ((with_reducible refine ag 5 15 ?_); refine aG rfl 26 (.tmp 5) (.tmp 15) rfl rfl w1.heap.size (ay (List.replicate 32 0)) rfl rfl 26 _ (ax.new w1 _ _) (xO _ Af) (by rw [aO, Af]; rfl) (dK _) ?_; intro w2 o2 b2; have P2 := qh (P1.out.trans (Past.of_below (((Below.refl _ _).alloc (Nat.le_refl _) _).trans (o2.below (by simp))))); clear b2 o2)
  exact ⟨rfl, rfl, P2.out⟩
 ·rw [hf] at hC
  rw [hg]
  have HC := qh hC
  clear hf hg hC
  go_enter Tryz.func326, Tryz.ntmps326
  go_wp2_with fail
  refine (HC.out _).mono ?_
  rintro e w1 ⟨rfl, b1⟩
  have P1 := qh ((P0.out _).trans (Past.of_below (g := g) b1))
  have K1 := qh (aa b1 (HR.out _) (HR.out _).lt)
  have K4 := qh (aa b1 (ax.new w 26 _) (by simp))
  have l4 : w.heap.size < w1.heap.size := K4.out.lt
  have lg : g < w1.heap.size := K1.out.lt
  clear hc HC b1 HR
  unfold zL
  go_wp2_with (first
   | ((with_reducible refine ag 5 15 ?_); refine aG rfl 26 (.tmp 5) (.tmp 15) rfl rfl w1.heap.size (ay k.1) rfl rfl 26 _ (ax.new w1 _ _) (xO _ k.2) (by rw [aO, k.2]; rfl) (dK _) ?_; intro w2 o2 b2
      have P2 := qh (P1.out.trans (Past.of_below (g := g) (((Below.refl _ _).alloc (Nat.le_refl _) _).trans (o2.below (by simp)))))
      have K5 := qh b2
      replace K1 := qh (o2.blk (K1.out.alloc _) (by simp; omega))
      replace K4 := qh (o2.blk (K4.out.alloc _) (by simp; omega))
      have kc := K1.out.cell 0
      have kz := K1.out.frozen 0
      clear b2 o2)
   | ((with_reducible refine ag 25 23 ?_); refine aF rfl 9 (.tmp 25) (.tmp 23) rfl rfl g (.string ⟨r.toArray⟩) rfl rfl rfl 288 _ K1.out (by kernel_rfl) ?_; intro w3 o3 b3
      have P3 := qh (P2.out.trans (Past.kM o3))
      replace K5 := qh (o3.blk K5.out (by simp; omega))
      replace K4 := qh (o3.blk K4.out (by simp; omega))
      have K1' := qh b3
      clear b3 o3)
   | ((with_reducible refine az 5 ?_); refine eH.af rfl (.tmp 5) rfl w1.heap.size 0 rfl k (by simpa [ak] using au.ah K5.out) ?_)
   | ((with_reducible refine ag 4 26 ?_); refine aG rfl 26 (.tmp 4) (.tmp 26) rfl rfl w.heap.size (ak k).toArray rfl rfl 26 _ K4.out (eH.oU _) (by rw [eH.arr]; rfl) (eH.zq _) ?_; intro w4 o4 b4
      have P4 := qh (P3.out.new o4 (Nat.le_refl _))
      replace K1 := qh (o4.blk K1'.out (by simp; omega))
      have K4' := qh b4
      clear b4 o4))
  exact bodyPost_ret (results_cell_row rfl _ _ w.heap.size 26 _ (0, 0) _ rfl K4'.out Tryz.underlying26 rfl (eH.oU _)) rfl ⟨_, rfl, rfl, K1.out, P4.out⟩
end
section
open Go.RowKit
theorem IV (l : List UInt8) (hs : l.length ≤ 1000000) (g : Nat) (w : World) (hr : Rb w g l) :
 Calls Tryz.prog 303 #[.pointer (some ⟨g, 0, none⟩)] w (rA VK g w (gD l)) := by
 have hC := Jy l hs g
 have HA := qh (fun o => (show Rb (w.alloc o) g l from hr.alloc o))
 have P0 := qh (fun o => (show Past g w (w.alloc o) from Past.of_below ((Below.refl _ _).alloc (Nat.le_refl _) _)))
 have hg : g < w.heap.size := hr.lt
 clear hr
 cases hq : gD l with
 | error er =>
  rw [hq] at hC
  have HC := qh hC
  clear hq hC
  go_enter Tryz.func303, Tryz.ntmps303
  go_wp2_with fail
  refine (HC.out _ (HA.out _)).mono ?_
  rintro e w1 ⟨rfl, p1⟩
  exact ⟨rfl, rfl, (P0.out _).trans p1⟩
 | ok x =>
  obtain ⟨k, r⟩ := x
  rw [hq] at hC
  have HC := qh hC
  clear hq hC
  go_enter Tryz.func303, Tryz.ntmps303
  go_wp2_with fail
  refine (HC.out _ (HA.out _)).mono ?_
  rintro e w1 ⟨v, rfl, rfl, b1, p1⟩
  have K2 := qh (p1.blk (ax.new w 26 _) (by omega))
  have P1 := qh ((P0.out _).trans p1)
  have B1 := qh b1
  clear b1 p1
  go_wp2_with ((with_reducible refine ag 2 4 ?_); refine aG rfl 26 (.tmp 2) (.tmp 4) rfl rfl w.heap.size (ak k).toArray rfl rfl 26 _ K2.out (eH.oU _) (by rw [eH.arr]; rfl) (eH.zq _) ?_; intro w2 o2 b2)
  exact bodyPost_ret (results_cell_row rfl _ _ w.heap.size 26 _ (0, 0) _ rfl b2 Tryz.underlying26 rfl (eH.oU _)) rfl ⟨_, rfl, rfl, o2.blk B1.out (by simp; omega), P1.out.new o2 (Nat.le_refl _)⟩
def VP (p : aS × aQ .u32) (v : Value) (_ : World) : Prop := v = .agg (aR .u32 p).toArray
def VO (p : aQ .i64 × aS) (v : Value) (_ : World) : Prop := v = .agg (dR .i64 p).toArray
theorem bV {α : Type} {W : α → List UInt8} {R : Rd α} {V : α → Prop} (h : Good W R V) {l r : List UInt8} {a : α} (he : R l = .ok (a, r)) (hs : l.length ≤ 1000000) : r.length ≤ 1000000 := by
 have := (h.bwd _ _ _ he).2
 rw [this, List.length_append] at hs
 omega
theorem Qi (t : TypeId) (ht : t = 142) (k : aS) (z : aQ .u32) : Tryz.prog.built t [(0, .agg (ak k).toArray), (1, .int .u32 z.1)] = some (aR .u32 (k, z)).toArray := by
 subst ht
 obtain ⟨l, hl⟩ := k
 iterate 32 (rcases l with _ | ⟨b, l⟩; · simp at hl)
 rcases l with _ | ⟨b, l⟩
 ·kernel_rfl
 ·simp at hl
theorem Fx (t : TypeId) (ht : t = 144) (k : aS) (z : aQ .i64) : Tryz.prog.built t [(0, .int .i64 z.1), (1, .agg (ak k).toArray)] = some (dR .i64 (z, k)).toArray := by
 subst ht
 obtain ⟨l, hl⟩ := k
 iterate 32 (rcases l with _ | ⟨b, l⟩; · simp at hl)
 rcases l with _ | ⟨b, l⟩
 ·kernel_rfl
 ·simp at hl
theorem RX (l : List UInt8) (hs : l.length ≤ 1000000) (g : Nat) (w : World) (hr : Rb w g l) :
 Calls Tryz.prog 300 #[.pointer (some ⟨g, 0, none⟩)] w (rA VP g w (Gq l)) := by
 have hC := IV l hs g
 have HA := qh (fun o => (show Rb (w.alloc o) g l from hr.alloc o))
 have P0 := qh (fun o => (show Past g w (w.alloc o) from Past.of_below ((Below.refl _ _).alloc (Nat.le_refl _) _)))
 have hg : g < w.heap.size := hr.lt
 clear hr
 cases hq : gD l with
 | error er =>
  rw [show Gq l = .error er by unfold Gq bT; rw [hq]]
  rw [hq] at hC
  have HC := qh hC
  clear hq hC
  go_enter Tryz.func300, Tryz.ntmps300
  go_wp2_with fail
  refine (HC.out _ (HA.out _)).mono ?_
  rintro e w1 ⟨rfl, p1⟩
  exact ⟨rfl, rfl, (P0.out _).trans p1⟩
 | ok x =>
  obtain ⟨k, r⟩ := x
  have hs' := bV dn hq hs
  have hU := Um r hs' g
  rw [hq] at hC
  have HC := qh hC
  cases hq2 : rU r with
  | error er =>
   rw [show Gq l = .error er by unfold Gq bT; rw [hq]; simp only [hq2]]
   rw [hq2] at hU
   have HU := qh hU
   clear hq hC hU hq2 hs'
   go_enter Tryz.func300, Tryz.ntmps300
   go_wp2_with fail
   refine (HC.out _ (HA.out _)).mono ?_
   rintro e w1 ⟨v, rfl, rfl, b1, p1⟩
   have K2 := qh (p1.blk (ax.new w 142 _) (by omega))
   have P1 := qh ((P0.out _).trans p1)
   have B1 := qh b1
   clear b1 p1
   go_wp2_with ((with_reducible refine ag 3 5 ?_); refine aG rfl 26 (.tmp 3) (.tmp 5) rfl rfl w1.heap.size (ak k).toArray rfl rfl 26 _ (ax.new w1 _ _) (eH.oU _) (by rw [eH.arr]; rfl) (eH.zq _) ?_; intro w2 o2 b2)
   have l1 : w.heap.size < w1.heap.size := K2.out.lt
   have lg : g < w1.heap.size := B1.out.lt
   have P2 := qh (P1.out.trans (Past.of_below (g := g) (((Below.refl _ _).alloc (Nat.le_refl _) _).trans (o2.below (by simp)))))
   have K3 := qh b2
   replace K2 := qh (o2.blk (K2.out.alloc _) (by simp; omega))
   have B2 := qh (o2.blk (B1.out.alloc _) (by simp; omega))
   clear b2 o2 P1 B1 HA P0
   refine wp_region_held_drew (S := fun w' => Past g w w' ∧ (∃ cs : Array Value, cs.size = 33 ∧ ax w' w.heap.size 142 cs) ∧ ax w' w1.heap.size 26 (ak k).toArray) (by kernel_rfl) ⟨P2.out.drewN 1, ⟨_, rfl, K2.out.drew⟩, K3.out.drew⟩ ?_
   have Y7 : Rb w2.drew g r := B2.out.drew
   have BD := qh Y7
   clear K2 K3 P2 B2 Y7
   generalize w2.drew = wd at *
   intro hS0
   refine wpAnyH_take (i := 0) (v := .agg (ak k).toArray) rfl (by kernel_rfl) (by kernel_rfl) (by kernel_rfl) (fun _ _ _ h => h) (eU (by rfl) 26 (.tmp 3) rfl w1.heap.size rfl 26 (ak k).toArray _ (fun _ h => h.2.2) Tryz.underlying26 rfl (eH.oU _)) hS0 ?_
   go_simp
   refine wpAnyH_take (i := 1) (v := .pointer (some ⟨g, 0, none⟩)) rfl (by kernel_rfl) (by kernel_rfl) (by kernel_rfl) (fun _ _ _ h => h) (Or.inl ⟨by rfl, fun W _ => by go_simp; try with_reducible rfl⟩) hS0 ?_
   go_simp
   refine rd 2 rfl (fun Kq hK => ?_)
   go_simp
   refine (HU.out wd BD.out).mono ?_
   rintro e w3 ⟨rfl, p3⟩
   exact ⟨rfl, rfl, hS0.1.trans p3⟩
  | ok y =>
   obtain ⟨z, r2⟩ := y
   rw [show Gq l = .ok ((k, z), r2) by unfold Gq bT; rw [hq]; simp only [hq2]]
   rw [hq2] at hU
   have HU := qh hU
   clear hq hC hU hq2 hs'
   go_enter Tryz.func300, Tryz.ntmps300
   go_wp2_with fail
   refine (HC.out _ (HA.out _)).mono ?_
   rintro e w1 ⟨v, rfl, rfl, b1, p1⟩
   have K2 := qh (p1.blk (ax.new w 142 _) (by omega))
   have P1 := qh ((P0.out _).trans p1)
   have B1 := qh b1
   clear b1 p1
   go_wp2_with ((with_reducible refine ag 3 5 ?_); refine aG rfl 26 (.tmp 3) (.tmp 5) rfl rfl w1.heap.size (ak k).toArray rfl rfl 26 _ (ax.new w1 _ _) (eH.oU _) (by rw [eH.arr]; rfl) (eH.zq _) ?_; intro w2 o2 b2)
   have l1 : w.heap.size < w1.heap.size := K2.out.lt
   have lg : g < w1.heap.size := B1.out.lt
   have P2 := qh (P1.out.trans (Past.of_below (g := g) (((Below.refl _ _).alloc (Nat.le_refl _) _).trans (o2.below (by simp)))))
   have K3 := qh b2
   replace K2 := qh (o2.blk (K2.out.alloc _) (by simp; omega))
   have B2 := qh (o2.blk (B1.out.alloc _) (by simp; omega))
   clear b2 o2 P1 B1 HA P0
   refine wp_region_held_drew (S := fun w' => Past g w w' ∧ (∃ cs : Array Value, cs.size = 33 ∧ ax w' w.heap.size 142 cs) ∧ ax w' w1.heap.size 26 (ak k).toArray) (by kernel_rfl) ⟨P2.out.drewN 1, ⟨_, rfl, K2.out.drew⟩, K3.out.drew⟩ ?_
   have Y7 : Rb w2.drew g r := B2.out.drew
   have BD := qh Y7
   clear K2 K3 P2 B2 Y7
   generalize w2.drew = wd at *
   intro hS0
   refine wpAnyH_take (i := 0) (v := .agg (ak k).toArray) rfl (by kernel_rfl) (by kernel_rfl) (by kernel_rfl) (fun _ _ _ h => h) (eU (by rfl) 26 (.tmp 3) rfl w1.heap.size rfl 26 (ak k).toArray _ (fun _ h => h.2.2) Tryz.underlying26 rfl (eH.oU _)) hS0 ?_
   go_simp
   refine wpAnyH_take (i := 1) (v := .pointer (some ⟨g, 0, none⟩)) rfl (by kernel_rfl) (by kernel_rfl) (by kernel_rfl) (fun _ _ _ h => h) (Or.inl ⟨by rfl, fun W _ => by go_simp; try with_reducible rfl⟩) hS0 ?_
   go_simp
   refine rd 2 rfl (fun Kq hK => ?_)
   go_simp
   refine (HU.out wd BD.out).mono ?_
   rintro e w3 ⟨v, rfl, rfl, b3, p3⟩
   obtain ⟨cs, hcs, WI⟩ := hS0.2.1
   have lt3 : w.heap.size < wd.heap.size := WI.lt
   refine hK.out _ _ ⟨hS0.1.trans p3, ⟨cs, hcs, p3.blk WI (by omega)⟩, p3.blk hS0.2.2 (by omega)⟩ (fun hS1 => ?_)
   have B3 := qh b3
   clear hK Kq b3 p3 BD
   refine wpAnyH_take (i := 3) (v := .agg (aR .u32 (k, z)).toArray) rfl (by kernel_rfl) (by kernel_rfl) (by kernel_rfl) (fun _ _ _ h => h) (bH (by rfl) 142 #[(0, .tmp 6), (1, .tmp 8)] rfl (aR .u32 (k, z)).toArray ((congrArg (Tryz.prog.built 142) (show _ = [(0, Value.agg (ak k).toArray), (1, Value.int .u32 z.1)] by kernel_rfl)).trans (Qi _ rfl k z))) hS1 ?_
   go_simp
   obtain ⟨cs', hcs', aag⟩ := hS1.2.1
   refine rd 4 rfl (fun Kq hK => ?_)
   refine iD rfl 142 (.tmp 2) (.tmp 9) rfl rfl w.heap.size (aR .u32 (k, z)).toArray rfl rfl 142 _ aag (jU.oU _) (by rw [jU.arr, hcs']) (jU.zq _) ?_
   intro w4 o4 b4
   refine hK.out _ _ ⟨hS1.1.new o4 (Nat.le_refl _), ⟨_, jU.arr _, b4⟩, o4.blk hS1.2.2 (by simp; omega)⟩ (fun hS2 => ?_)
   clear hK Kq
   refine wpAnyH_done (by kernel_rfl) ?_ _
   go_wp2_with fail
   exact bodyPost_ret (results_cell_row rfl _ _ w.heap.size 142 _ (0, 0) _ rfl b4 Tryz.underlying142 rfl (jU.oU _)) rfl ⟨_, rfl, rfl, o4.blk B3.out (by simp; omega), hS2.1⟩
theorem Xy (l : List UInt8) (hs : l.length ≤ 1000000) (g : Nat) (w : World) (hr : Rb w g l) :
 Calls Tryz.prog 302 #[.pointer (some ⟨g, 0, none⟩)] w (rA VO g w (sw l)) := by
 have hC := Pj l hs g
 have HA := qh (fun o => (show Rb (w.alloc o) g l from hr.alloc o))
 have P0 := qh (fun o => (show Past g w (w.alloc o) from Past.of_below ((Below.refl _ _).alloc (Nat.le_refl _) _)))
 have hg : g < w.heap.size := hr.lt
 clear hr
 cases hq : yQ l with
 | error er =>
  rw [show sw l = .error er by unfold sw bT; rw [hq]]
  rw [hq] at hC
  have HC := qh hC
  clear hq hC
  go_enter Tryz.func302, Tryz.ntmps302
  go_wp2_with fail
  refine (HC.out _ (HA.out _)).mono ?_
  rintro e w1 ⟨rfl, p1⟩
  exact ⟨rfl, rfl, (P0.out _).trans p1⟩
 | ok x =>
  obtain ⟨z, r⟩ := x
  have hs' := bV lM hq hs
  have hU := IV r hs' g
  rw [hq] at hC
  have HC := qh hC
  cases hq2 : gD r with
  | error er =>
   rw [show sw l = .error er by unfold sw bT; rw [hq]; simp only [hq2]]
   rw [hq2] at hU
   have HU := qh hU
   clear hq hC hU hq2 hs'
   go_enter Tryz.func302, Tryz.ntmps302
   go_wp2_with fail
   refine (HC.out _ (HA.out _)).mono ?_
   rintro e w1 ⟨v, rfl, rfl, b1, p1⟩
   have P1 := qh ((P0.out _).trans p1)
   have B1 := qh b1
   clear b1 p1 HA P0
   go_wp2_with fail
   refine (HU.out _ B1.out).mono ?_
   rintro e w3 ⟨rfl, p3⟩
   exact ⟨rfl, rfl, P1.out.trans p3⟩
  | ok y =>
   obtain ⟨k, r2⟩ := y
   rw [show sw l = .ok ((z, k), r2) by unfold sw bT; rw [hq]; simp only [hq2]]
   rw [hq2] at hU
   have HU := qh hU
   clear hq hC hU hq2 hs'
   go_enter Tryz.func302, Tryz.ntmps302
   go_wp2_with fail
   refine (HC.out _ (HA.out _)).mono ?_
   rintro e w1 ⟨v, rfl, rfl, b1, p1⟩
   have K2 := qh (p1.blk (ax.new w 144 _) (by omega))
   have l1 : w.heap.size < w1.heap.size := K2.out.lt
   have P1 := qh ((P0.out _).trans p1)
   have B1 := qh b1
   clear b1 p1 HA P0
   go_wp2_with fail
   refine (HU.out _ B1.out).mono ?_
   rintro e w3 ⟨v, rfl, rfl, b3, p3⟩
   replace K2 := qh (p3.blk K2.out (by omega))
   have P3 := qh (P1.out.trans p3)
   have B3 := qh b3
   clear b3 p3 P1 B1
   go_wp2_with (first
    | ((with_reducible refine bW 9 ?_); refine bu rfl 144 #[(0, .tmp 6), (1, .tmp 8)] rfl (dR .i64 (z, k)).toArray ((congrArg (Tryz.prog.built 144) (show _ = [(0, Value.int .i64 z.1), (1, Value.agg (ak k).toArray)] by kernel_rfl)).trans (Fx _ rfl k z)) ?_)
    | ((with_reducible refine ag 2 9 ?_); refine aG rfl 144 (.tmp 2) (.tmp 9) rfl rfl w.heap.size (dR .i64 (z, k)).toArray rfl rfl 144 _ K2.out (nD.oU _) (by rw [nD.arr]; rfl) (nD.zq _) ?_; intro w4 o4 b4))
   exact bodyPost_ret (results_cell_row rfl _ _ w.heap.size 144 _ (0, 0) _ rfl b4 Tryz.underlying144 rfl (nD.oU _)) rfl ⟨_, rfl, rfl, o4.blk B3.out (by simp; omega), P3.out.new o4 (Nat.le_refl _)⟩
end
section
open Go.RowKit
def nO {α : Type} (pre : List α) (x : Except Int (List α × List UInt8)) : Except Int (List α × List UInt8) := match x with
 | .error e => .error e
 | .ok (l, r) => .ok (pre ++ l, r)
theorem qM {α : Type} {R : Rd α} {m : Nat} {r : List UInt8} {e : Int} (h : R r = .error e) : dw R (m + 1) r = .error e := by
 simp only [dw, fK, bT, h]
theorem uE {α : Type} {R : Rd α} {m : Nat} {r r2 : List UInt8} {a : α} (h : R r = .ok (a, r2)) (pre : List α) : nO pre (dw R (m + 1) r) = nO (pre ++ [a]) (dw R m r2) := by
 simp only [dw, fK, bT, h]
 cases dw R m r2 with
 | error e => rfl
 | ok p => obtain ⟨l, r⟩ := p; simp [nO]
def VL {α : Type} (enc : α → List Value) (e : TypeId) (l : List α) (v : Value) (w : World) : Prop := ∃ h, v = .slice (some ⟨h, 0, none⟩) l.length l.length ∧ ax w h e (cellsOf enc l).toArray
theorem tX {α : Type} (l : List α) (z a : α) (m : Nat) : (l ++ List.replicate (m + 1) z).set l.length a = (l ++ [a]) ++ List.replicate m z := by
 rw [List.replicate_succ]
 simp
theorem OL (n : Nat) (hn : n ≤ 1000) (l : List UInt8) (hs : l.length ≤ 1000000) (g : Nat) (w : World) (hr : Rb w g l) :
 Calls Tryz.prog 298 #[.int .i64 n, .func (.func 300) #[.pointer (some ⟨g, 0, none⟩)] #[]] w (rA (VL (aR .u32) 142) g w (dw Gq n l)) := by
 have hmk : ∀ W, (Instr.makeSlice 89 (.int .i64 (n : Int)) (.int .i64 (n : Int))).run Tryz.prog W = .ok (.slice (some ⟨W.heap.size, 0, none⟩) n n) (W.alloc (.cells (cellsOf (aR .u32) (List.replicate n (ai, jl.exp))).toArray 142)) := fun W =>
  jU.made W (ai, jl.exp) (.agg (aR .u32 (ai, jl.exp)).toArray) 36 (by kernel_rfl) rfl (by omega) .i64 .i64 n (by omega)
 have hg : g < w.heap.size := hr.lt
 obtain ⟨X, hX⟩ : ∃ X, dw Gq n l = X := ⟨_, rfl⟩
 rw [hX]
 have HX := qh hX
 have HR := qh hr
 clear hr hX
 go_enter Tryz.func298, Tryz.ntmps298
 go_wp2_with fail
 clear hmk
 go_loopw [11] (fun i wr => ∃ (kP : List (aS × aQ .u32)) (r : List UInt8) (m : Nat), kP.length + m = n ∧ i = .int .i64 (kP.length : Nat) ∧ Hid (X = nO kP (dw Gq m r) ∧ r.length ≤ 1000000) ∧ Hid (Rb wr g r ∧ ax wr w.heap.size 142 (cellsOf (aR .u32) (kP ++ List.replicate m (ai, jl.exp))).toArray ∧ Past g w wr)) (fun i _ => n - (intOf i).toNat)
 case atStart =>
  refine ⟨[], l, n, by simp, rfl, qh ⟨?_, hs⟩, qh ⟨HR.out.alloc _, ?_, Past.of_below ((Below.refl _ _).alloc (Nat.le_refl _) _)⟩⟩
  ·rw [HX.out]; cases X <;> rfl
  ·exact ax.new w _ _
 case round =>
  obtain ⟨kP, r, m, hlm, rfl, hx, hw⟩ := hrel
  obtain ⟨j, hj⟩ : ∃ j, kP.length = j := ⟨_, rfl⟩
  have HJ := qh hj
  rw [hj]
  cases m with
  | zero =>
   have hjn : j = n := by omega
   clear hlm hj
   subst hjn
   go_wp2
   go_ret
   rw [hx.out.1]
   refine ⟨_, rfl, ⟨w.heap.size, ?_, ?_⟩, hw.out.1, hw.out.2.2⟩
   ·rw [List.append_nil, HJ.out]; rfl
   ·have := hw.out.2.1
    simpa using this
  | succ m =>
   have hlt : j < n := by omega
   clear hj
   have hc := RX r hx.out.2 g wr hw.out.1
   cases hq : Gq r with
   | error er =>
    rw [hq] at hc
    have HC := qh hc
    have HE := qh (show X = .error er by rw [hx.out.1, qM hq]; rfl)
    clear hc hq hlm
    go_wp2_with fail
    refine HC.out.mono ?_
    rintro e w1 ⟨rfl, p1⟩
    refine ⟨rfl, ?_⟩
    rw [HE.out]
    exact ⟨rfl, hw.out.2.2.trans p1⟩
   | ok x =>
    obtain ⟨a, r2⟩ := x
    rw [hq] at hc
    have HC := qh hc
    have HE := qh (show X = nO (kP ++ [a]) (dw Gq m r2) by rw [hx.out.1, uE hq])
    have HS := qh (bV xy hq hx.out.2)
    clear hc hq
    go_wp2_with fail
    refine HC.out.mono ?_
    rintro e w1 ⟨v, rfl, rfl, b1, p1⟩
    have KH := qh (p1.blk hw.out.2.1 (by omega))
    have P1 := qh (hw.out.2.2.trans p1)
    have B1 := qh b1
    have Ws := qh hlm
    clear b1 p1 HC hx hw hlm
    go_wp2_with ((with_reducible refine ag 18 17 ?_); refine jU.aj rfl (.tmp 18) (.tmp 17) rfl rfl w.heap.size j a rfl rfl 142 _ KH.out (by rw [List.length_append, HJ.out, List.length_replicate]; omega) ?_; intro w2 o2 b2)
    have K2 := qh (show ax w2 w.heap.size 142 (cellsOf (aR .u32) ((kP ++ [a]) ++ List.replicate m (ai, jl.exp))).toArray by rw [← tX, HJ.out]; exact b2)
    have e1 : (kP ++ [a]).length = j + 1 := by rw [List.length_append, HJ.out]; rfl
    clear b2
    go_roundw
    case rel => exact ⟨kP ++ [a], r2, m, by rw [e1]; have h1 := Ws.out; have h2 := HJ.out; omega, by rw [e1]; go_num, qh ⟨HE.out, HS.out⟩, qh ⟨o2.blk B1.out (by simp; omega), K2.out, P1.out.new o2 (Nat.le_refl _)⟩⟩
    case measure =>
     have h2 := HJ.out
     simp [intOf]
     omega
theorem Kn (n : Nat) (hn : n ≤ 1000) (l : List UInt8) (hs : l.length ≤ 1000000) (g : Nat) (w : World) (hr : Rb w g l) :
 Calls Tryz.prog 301 #[.int .i64 n, .func (.func 302) #[.pointer (some ⟨g, 0, none⟩)] #[]] w (rA (VL (dR .i64) 144) g w (dw sw n l)) := by
 have hmk : ∀ W, (Instr.makeSlice 90 (.int .i64 (n : Int)) (.int .i64 (n : Int))).run Tryz.prog W = .ok (.slice (some ⟨W.heap.size, 0, none⟩) n n) (W.alloc (.cells (cellsOf (dR .i64) (List.replicate n (jl.dW, ai))).toArray 144)) := fun W =>
  nD.made W (jl.dW, ai) (.agg (dR .i64 (jl.dW, ai)).toArray) 40 (by kernel_rfl) rfl (by omega) .i64 .i64 n (by omega)
 have hg : g < w.heap.size := hr.lt
 obtain ⟨X, hX⟩ : ∃ X, dw sw n l = X := ⟨_, rfl⟩
 rw [hX]
 have HX := qh hX
 have HR := qh hr
 clear hr hX
 go_enter Tryz.func301, Tryz.ntmps301
 go_wp2_with fail
 clear hmk
 go_loopw [11] (fun i wr => ∃ (kP : List (aQ .i64 × aS)) (r : List UInt8) (m : Nat), kP.length + m = n ∧ i = .int .i64 (kP.length : Nat) ∧ Hid (X = nO kP (dw sw m r) ∧ r.length ≤ 1000000) ∧ Hid (Rb wr g r ∧ ax wr w.heap.size 144 (cellsOf (dR .i64) (kP ++ List.replicate m (jl.dW, ai))).toArray ∧ Past g w wr)) (fun i _ => n - (intOf i).toNat)
 case atStart =>
  refine ⟨[], l, n, by simp, rfl, qh ⟨?_, hs⟩, qh ⟨HR.out.alloc _, ?_, Past.of_below ((Below.refl _ _).alloc (Nat.le_refl _) _)⟩⟩
  ·rw [HX.out]; cases X <;> rfl
  ·exact ax.new w _ _
 case round =>
  obtain ⟨kP, r, m, hlm, rfl, hx, hw⟩ := hrel
  obtain ⟨j, hj⟩ : ∃ j, kP.length = j := ⟨_, rfl⟩
  have HJ := qh hj
  rw [hj]
  cases m with
  | zero =>
   have hjn : j = n := by omega
   clear hlm hj
   subst hjn
   go_wp2
   go_ret
   rw [hx.out.1]
   refine ⟨_, rfl, ⟨w.heap.size, ?_, ?_⟩, hw.out.1, hw.out.2.2⟩
   ·rw [List.append_nil, HJ.out]; rfl
   ·have := hw.out.2.1
    simpa using this
  | succ m =>
   have hlt : j < n := by omega
   clear hj
   have hc := Xy r hx.out.2 g wr hw.out.1
   cases hq : sw r with
   | error er =>
    rw [hq] at hc
    have HC := qh hc
    have HE := qh (show X = .error er by rw [hx.out.1, qM hq]; rfl)
    clear hc hq hlm
    go_wp2_with fail
    refine HC.out.mono ?_
    rintro e w1 ⟨rfl, p1⟩
    refine ⟨rfl, ?_⟩
    rw [HE.out]
    exact ⟨rfl, hw.out.2.2.trans p1⟩
   | ok x =>
    obtain ⟨a, r2⟩ := x
    rw [hq] at hc
    have HC := qh hc
    have HE := qh (show X = nO (kP ++ [a]) (dw sw m r2) by rw [hx.out.1, uE hq])
    have HS := qh (bV uI hq hx.out.2)
    clear hc hq
    go_wp2_with fail
    refine HC.out.mono ?_
    rintro e w1 ⟨v, rfl, rfl, b1, p1⟩
    have KH := qh (p1.blk hw.out.2.1 (by omega))
    have P1 := qh (hw.out.2.2.trans p1)
    have B1 := qh b1
    have Ws := qh hlm
    clear b1 p1 HC hx hw hlm
    go_wp2_with ((with_reducible refine ag 18 17 ?_); refine nD.aj rfl (.tmp 18) (.tmp 17) rfl rfl w.heap.size j a rfl rfl 144 _ KH.out (by rw [List.length_append, HJ.out, List.length_replicate]; omega) ?_; intro w2 o2 b2)
    have K2 := qh (show ax w2 w.heap.size 144 (cellsOf (dR .i64) ((kP ++ [a]) ++ List.replicate m (jl.dW, ai))).toArray by rw [← tX, HJ.out]; exact b2)
    have e1 : (kP ++ [a]).length = j + 1 := by rw [List.length_append, HJ.out]; rfl
    clear b2
    go_roundw
    case rel => exact ⟨kP ++ [a], r2, m, by rw [e1]; have h1 := Ws.out; have h2 := HJ.out; omega, by rw [e1]; go_num, qh ⟨HE.out, HS.out⟩, qh ⟨o2.blk B1.out (by simp; omega), K2.out, P1.out.new o2 (Nat.le_refl _)⟩⟩
    case measure =>
     have h2 := HJ.out
     simp [intOf]
     omega
theorem qN (n : Nat) (hn : n ≤ 1000) (l : List UInt8) (hs : l.length ≤ 1000000) (g : Nat) (w : World) (hr : Rb w g l) :
 Calls Tryz.prog 304 #[.int .i64 n, .func (.func 303) #[.pointer (some ⟨g, 0, none⟩)] #[]] w (rA (VL (ak) 26) g w (dw gD n l)) := by
 have hmk : ∀ W, (Instr.makeSlice 22 (.int .i64 (n : Int)) (.int .i64 (n : Int))).run Tryz.prog W = .ok (.slice (some ⟨W.heap.size, 0, none⟩) n n) (W.alloc (.cells (cellsOf (ak) (List.replicate n ai)).toArray 26)) := fun W =>
  eH.made W ai (.agg (ak ai).toArray) 32 (by kernel_rfl) rfl (by omega) .i64 .i64 n (by omega)
 have hg : g < w.heap.size := hr.lt
 obtain ⟨X, hX⟩ : ∃ X, dw gD n l = X := ⟨_, rfl⟩
 rw [hX]
 have HX := qh hX
 have HR := qh hr
 clear hr hX
 go_enter Tryz.func304, Tryz.ntmps304
 go_wp2_with fail
 clear hmk
 go_loopw [11] (fun i wr => ∃ (kP : List (aS)) (r : List UInt8) (m : Nat), kP.length + m = n ∧ i = .int .i64 (kP.length : Nat) ∧ Hid (X = nO kP (dw gD m r) ∧ r.length ≤ 1000000) ∧ Hid (Rb wr g r ∧ ax wr w.heap.size 26 (cellsOf (ak) (kP ++ List.replicate m ai)).toArray ∧ Past g w wr)) (fun i _ => n - (intOf i).toNat)
 case atStart =>
  refine ⟨[], l, n, by simp, rfl, qh ⟨?_, hs⟩, qh ⟨HR.out.alloc _, ?_, Past.of_below ((Below.refl _ _).alloc (Nat.le_refl _) _)⟩⟩
  ·rw [HX.out]; cases X <;> rfl
  ·exact ax.new w _ _
 case round =>
  obtain ⟨kP, r, m, hlm, rfl, hx, hw⟩ := hrel
  obtain ⟨j, hj⟩ : ∃ j, kP.length = j := ⟨_, rfl⟩
  have HJ := qh hj
  rw [hj]
  cases m with
  | zero =>
   have hjn : j = n := by omega
   clear hlm hj
   subst hjn
   go_wp2
   go_ret
   rw [hx.out.1]
   refine ⟨_, rfl, ⟨w.heap.size, ?_, ?_⟩, hw.out.1, hw.out.2.2⟩
   ·rw [List.append_nil, HJ.out]; rfl
   ·have := hw.out.2.1
    simpa using this
  | succ m =>
   have hlt : j < n := by omega
   clear hj
   have hc := IV r hx.out.2 g wr hw.out.1
   cases hq : gD r with
   | error er =>
    rw [hq] at hc
    have HC := qh hc
    have HE := qh (show X = .error er by rw [hx.out.1, qM hq]; rfl)
    clear hc hq hlm
    go_wp2_with fail
    refine HC.out.mono ?_
    rintro e w1 ⟨rfl, p1⟩
    refine ⟨rfl, ?_⟩
    rw [HE.out]
    exact ⟨rfl, hw.out.2.2.trans p1⟩
   | ok x =>
    obtain ⟨a, r2⟩ := x
    rw [hq] at hc
    have HC := qh hc
    have HE := qh (show X = nO (kP ++ [a]) (dw gD m r2) by rw [hx.out.1, uE hq])
    have HS := qh (bV dn hq hx.out.2)
    clear hc hq
    go_wp2_with fail
    refine HC.out.mono ?_
    rintro e w1 ⟨v, rfl, rfl, b1, p1⟩
    have KH := qh (p1.blk hw.out.2.1 (by omega))
    have P1 := qh (hw.out.2.2.trans p1)
    have B1 := qh b1
    have Ws := qh hlm
    clear b1 p1 HC hx hw hlm
    go_wp2_with ((with_reducible refine ag 18 17 ?_); refine eH.aj rfl (.tmp 18) (.tmp 17) rfl rfl w.heap.size j a rfl rfl 26 _ KH.out (by rw [List.length_append, HJ.out, List.length_replicate]; omega) ?_; intro w2 o2 b2)
    have K2 := qh (show ax w2 w.heap.size 26 (cellsOf (ak) ((kP ++ [a]) ++ List.replicate m ai)).toArray by rw [← tX, HJ.out]; exact b2)
    have e1 : (kP ++ [a]).length = j + 1 := by rw [List.length_append, HJ.out]; rfl
    clear b2
    go_roundw
    case rel => exact ⟨kP ++ [a], r2, m, by rw [e1]; have h1 := Ws.out; have h2 := HJ.out; omega, by rw [e1]; go_num, qh ⟨HE.out, HS.out⟩, qh ⟨o2.blk B1.out (by simp; omega), K2.out, P1.out.new o2 (Nat.le_refl _)⟩⟩
    case measure =>
     have h2 := HJ.out
     simp [intOf]
     omega
end
section
open Go.RowKit
def LB {α : Type} (enc : α → List Value) (e : TypeId) (w : World) (A : Option Addr) (c : Nat) (l : List α) : Prop :=
 (A = none ∧ c = 0 ∧ l = []) ∨ ∃ h, A = some ⟨h, 0, none⟩ ∧ c = l.length ∧ ax w h e (cellsOf enc l).toArray
section
variable {α : Type} {enc : α → List Value} {e : TypeId} {w w' : World} {A : Option Addr} {c : Nat} {l : List α}
theorem LB.past (h : LB enc e w A c l) {g : Nat} (hp : Past g w w') {t : TypeId} {cs : Array Value} (hg : ax w g t cs) (hne : e ≠ t) : LB enc e w' A c l := by
 rcases h with h | ⟨b, h1, h2, h3⟩
 ·exact .inl h
 ·exact .inr ⟨b, h1, h2, hp.blk h3 (h3.wU hg hne)⟩
theorem LB.only (h : LB enc e w A c l) {g : Nat} (ho : Only [g] w w') {t : TypeId} {cs : Array Value} (hg : ax w g t cs) (hne : e ≠ t) : LB enc e w' A c l := by
 rcases h with h | ⟨b, h1, h2, h3⟩
 ·exact .inl h
 ·exact .inr ⟨b, h1, h2, ho.blk h3 (by have := h3.wU hg hne; simpa using this)⟩
theorem LB.mk {v : Value} (h : VL enc e l v w) : ∃ A, v = .slice A l.length l.length ∧ LB enc e w A l.length l := by
 obtain ⟨b, h1, h2⟩ := h
 exact ⟨_, h1, .inr ⟨b, rfl, rfl, h2⟩⟩
end
def aZ : aY := ⟨jl, none, 0, none, 0, none, 0, none, 0⟩
structure TL (w : World) (a : aY) : Prop where
 ins : LB (aR .u32) 142 w a.Ai a.ci a.T.ins
 outs : LB (dR .i64) 144 w a.Ao a.co a.T.outs
 av : LB ak 26 w a.An a.cn a.T.av
 notes : LB ak 26 w a.At a.ct a.T.notes
structure Ii (w0 : World) (g g2 g3 : Nat) (a : aY) (w : World) (r : List UInt8) : Prop where
 rb : Rb w g r
 len : r.length ≤ 1000000
 past : Past g w0 w
 k2 : ∃ cs : Array Value, cs.size = 38 ∧ ax w g2 92 cs
 k3 : ax w g3 92 a.cells.toArray
 ne : g2 ≠ g3
 new2 : w0.heap.size ≤ g2
 NL : w0.heap.size ≤ g3
 tl : TL w a
section
variable {w0 w w' : World} {g g2 g3 : Nat} {a a' : aY} {r r' : List UInt8}
theorem TL.past (h : TL w a) (hp : Past g w w') (hr : Rb w g r) : TL w' a :=
 ⟨h.ins.past hp hr (by decide), h.outs.past hp hr (by decide), h.av.past hp hr (by decide), h.notes.past hp hr (by decide)⟩
theorem TL.only (h : TL w a) {cs : Array Value} (ho : Only [g] w w') (hg : ax w g 92 cs) : TL w' a :=
 ⟨h.ins.only ho hg (by decide), h.outs.only ho hg (by decide), h.av.only ho hg (by decide), h.notes.only ho hg (by decide)⟩
theorem Ii.call (h : Ii w0 g g2 g3 a w r) (hp : Past g w w') (hr : Rb w' g r') (hl : r'.length ≤ 1000000) : Ii w0 g g2 g3 a w' r' where
 rb := hr
 len := hl
 past := h.past.trans hp
 k2 := by obtain ⟨cs, h1, h2⟩ := h.k2; exact ⟨cs, h1, hp.blk h2 (h2.wU h.rb (by decide))⟩
 k3 := hp.blk h.k3 (h.k3.wU h.rb (by decide))
 ne := h.ne
 new2 := h.new2
 NL := h.NL
 tl := h.tl.past hp h.rb
theorem Ii.set (h : Ii w0 g g2 g3 a w r) (ho : Only [g3] w w') (hk : ax w' g3 92 a'.cells.toArray) (ht : TL w' a') : Ii w0 g g2 g3 a' w' r where
 rb := ho.blk h.rb (by have := h.rb.wU h.k3 (by decide); simpa using this)
 len := h.len
 past := h.past.new ho h.NL
 k2 := by obtain ⟨cs, h1, h2⟩ := h.k2; exact ⟨cs, h1, ho.blk h2 (by have := h.ne; simpa using this)⟩
 k3 := hk
 ne := h.ne
 new2 := h.new2
 NL := h.NL
 tl := ht
end
theorem aY.Gj (a : aY) (k : aS) : (a.cells.take 3 ++ ak k ++ a.cells.drop (3 + 32)) = (({ a with T := { a.T with anchor := k } } : aY)).cells := by
 have hl := aC a.T.anchor
 simp [aY.cells, bf, hl]
theorem aY.Rx (a : aY) (z : aQ .u32) : a.cells.toArray.setIfInBounds 0 (.int .u32 z.1) = (({ a with T := { a.T with exp := z } } : aY)).cells.toArray := FZ z
theorem aY.DL (a : aY) (l : List (aS × aQ .u32)) (A : Option Addr) (c : Nat) : a.cells.toArray.setIfInBounds 1 (.slice A l.length c) = (({ a with T := { a.T with ins := l }, Ai := A, ci := c } : aY)).cells.toArray := FY l A c
theorem aY.DK (a : aY) (l : List (aQ .i64 × aS)) (A : Option Addr) (c : Nat) : a.cells.toArray.setIfInBounds 2 (.slice A l.length c) = (({ a with T := { a.T with outs := l }, Ao := A, co := c } : aY)).cells.toArray := Du l A c
theorem aY.vD (a : aY) (l : List aS) (A : Option Addr) (c : Nat) : a.cells.toArray.setIfInBounds 35 (.slice A l.length c) = (({ a with T := { a.T with av := l }, An := A, cn := c } : aY)).cells.toArray := BL l A c
theorem aY.vE (a : aY) (l : List aS) (A : Option Addr) (c : Nat) : a.cells.toArray.setIfInBounds 36 (.slice A l.length c) = (({ a with T := { a.T with notes := l }, At := A, ct := c } : aY)).cells.toArray := BM l A c
theorem aY.Iz (a : aY) (z : aQ .i64) : a.cells.toArray.setIfInBounds 37 (.int .i64 z.1) = (({ a with T := { a.T with dW := z } } : aY)).cells.toArray := F4 z
theorem IX {w : World} {g : Nat} {t : TypeId} {cs cs' : Array Value} (h : cs = cs') (hb : ax w g t cs) : ax w g t cs' := h ▸ hb
end
section
open Go.RowKit
theorem aL {w W : World} {base : Nat} {e : TypeId} {size n : Nat} {v : Value} {xs : List Value} (h : w.ownsRow base e size v n xs) (hb : Below w.heap.size w W) : W.ownsRow base e size v n xs :=
 ⟨h.1, h.2.imp id fun ⟨g, cap, cur, h1, h2, h3, h4⟩ => ⟨g, cap, cur, h1, h2, (hb.block g (by
  rcases Nat.lt_or_ge g w.heap.size with hlt | hge
  ·exact hlt
  ·rw [Array.getElem?_eq_none hge] at h3; cases h3)).trans h3, h4⟩⟩
theorem aW {w : World} {b b' : Nat} {e : TypeId} {k n : Nat} {v : Value} {xs : List Value} (h : w.ownsRow b e k v n xs) (hb : b' ≤ b) : w.ownsRow b' e k v n xs :=
 ⟨h.1, h.2.imp id fun ⟨g, cap, cur, h1, h2, h3, h4⟩ => ⟨g, cap, cur, h1, Nat.le_trans hb h2, h3, h4⟩⟩
theorem aI {w w' : World} {g base : Nat} {e t : TypeId} {k n : Nat} {v : Value} {xs : List Value} {cs : Array Value} (h : w.ownsRow base e k v n xs) (ho : Only [g] w w') (hg : ax w g t cs) (hne : e ≠ t) : w'.ownsRow base e k v n xs :=
 ⟨h.1, h.2.imp id fun ⟨b, cap, cur, h1, h2, h3, h4⟩ => ⟨b, cap, cur, h1, h2, ho.blk h3 (by have := ax.wU (w := w) h3 hg hne; simpa using this), h4⟩⟩
theorem dm {w : World} {α : Type} {enc : α → List Value} {k b c : Nat} {e : TypeId} {A : Option Addr} {l : List α} (hk : ∀ x, (enc x).length = k) (h : w.ownsRow b e k (.slice A l.length c) l.length (cellsOf enc l)) : aK enc k w w.heap.size A c l := by
 obtain ⟨A', c', hv, hr⟩ := aK.fO hk h
 injection hv with h1 h2 h3
 subst h1 h3
 exact hr
theorem ZU : ((Tryz.prog.info? 142).bind (·.zero)).isSome = true := by kernel_rfl
end
section
open Go.RowKit
def VT (T : dX) (v : Value) (w : World) : Prop := ∃ a : aY, a.T = T ∧ v = .agg a.cells.toArray ∧ TL w a
theorem Z9 (r0 : List UInt8) (hs : r0.length ≤ 1000000) (g : Nat) (w : World) (hr : Rb w g r0) :
 Calls Tryz.prog 254 #[.pointer (some ⟨g, 0, none⟩)] w (rA VT g w (nV r0)) := by
 have ED : ∀ (fn : Fn) (first cap : Array Value) (w : World), (Instr.makeFunc fn first cap).run Tryz.prog w = .ok (.func fn first cap) w := fun _ _ _ _ => rfl
 obtain ⟨X, hX⟩ : ∃ X, nV r0 = X := ⟨_, rfl⟩
 rw [hX]
 have HX := qh hX
 have ST0 : ∀ c2 c3 : Array Value, c2.size = 38 → c3 = aZ.cells.toArray → Ii w g w.heap.size (w.heap.size + 1) aZ ((w.alloc (.cells c2 92)).alloc (.cells c3 92)) r0 := fun c2 c3 h2 h3 =>
  ⟨(hr.alloc _).alloc _, hs, Past.of_below (((Below.refl _ _).alloc (Nat.le_refl _) _).alloc (by simp) _), ⟨_, h2, (ax.new w _ _).alloc _⟩, h3 ▸ bg _ _ (by simp), by omega, Nat.le_refl _, by omega, ⟨.inl ⟨rfl, rfl, rfl⟩, .inl ⟨rfl, rfl, rfl⟩, .inl ⟨rfl, rfl, rfl⟩, .inl ⟨rfl, rfl, rfl⟩⟩⟩
 have HST := qh ST0
 have LZ := qh (fun cs => (show Rb (w.alloc (.cells cs 92)) g r0 from hr.alloc _))
 have WR := qh (fun c2 c3 => (show Past g w ((w.alloc (.cells c2 92)).alloc (.cells c3 92)) from Past.of_below (((Below.refl _ _).alloc (Nat.le_refl _) _).alloc (by simp) _)))
 clear hX hr ST0
 go_enter Tryz.func254, Tryz.ntmps254
 go_wp2_with fail
 have hc := Um r0 hs g
 cases hq0 : rU r0 with
 | error er =>
  rw [hq0] at hc
  have HE := qh (show X = .error er by rw [← HX.out]; simp only [nV, fK, bT, hq0])
  have HC := qh hc
  clear hq0 hc
  refine (HC.out _ ((LZ.out _).alloc _)).mono ?_
  rintro e wx ⟨rfl, px⟩
  refine ⟨rfl, ?_⟩
  rw [HE.out]
  exact ⟨rfl, (WR.out _ _).trans px⟩
 | ok x =>
  obtain ⟨z0, r1⟩ := x
  rw [hq0] at hc
  have zA := qh hq0
  have hl := bV uH hq0 hs
  have HC := qh hc
  have HL := qh hl
  clear hq0 hc hl
  refine (HC.out _ ((LZ.out _).alloc _)).mono ?_
  rintro e w1 ⟨v, rfl, hv, bx, px⟩
  have hv' : v = .int .u32 z0.1 := hv
  subst hv'
  have ST := qh ((HST.out _ _ (by kernel_rfl) (by kernel_rfl)).call px bx HL.out)
  clear hv bx px HC HL HST LZ WR hs
  go_wp2_with ((with_reducible refine ag 7 6 ?_); refine aJ rfl 24 (.tmp 7) (.tmp 6) rfl rfl (w.heap.size + 1) 0 (.int .u32 z0.1) rfl rfl rfl 92 _ ST.out.k3 (by rw [di.arr]; omega) (by kernel_rfl) ?_; intro v1 ox bx; rw [aY.Rx] at bx; have ST' := qh (ST.out.set ox bx ⟨(ST.out.tl.only ox ST.out.k3).ins, (ST.out.tl.only ox ST.out.k3).outs, (ST.out.tl.only ox ST.out.k3).av, (ST.out.tl.only ox ST.out.k3).notes⟩); clear ST ox bx; have ST := ST'; clear ST')
  have hc := uO r1 ST.out.len g _ ST.out.rb
  cases hq1 : nJ r1 with
  | error er =>
   rw [hq1] at hc
   have HE := qh (show X = .error er by rw [← HX.out]; simp only [nV, fK, bT, iU, zA.out, hq1])
   have PP := qh ST.out.past
   have HC := qh hc
   clear hq1 hc ST
   refine HC.out.mono ?_
   rintro e wx ⟨rfl, px⟩
   refine ⟨rfl, ?_⟩
   rw [HE.out]
   exact ⟨rfl, PP.out.trans px⟩
  | ok x =>
   obtain ⟨n1, r2⟩ := x
   rw [hq1] at hc
   have Bu := qh hq1
   have hl := bV gV hq1 ST.out.len
   have hb := (gV.bwd _ _ _ hq1).1
   have HC := qh hc
   have HL := qh hl
   have HB := qh hb
   clear hq1 hc hl hb
   refine HC.out.mono ?_
   rintro e w2 ⟨v, rfl, rfl, bx, px⟩
   have ST' := qh (ST.out.call px bx HL.out)
   clear ST bx px HC HL
   have ST := ST'
   clear ST'
   have N1 := qh HB.out
   clear HB
   go_wp2_with fail
   have hc := OL n1 (by have := N1.out; omega) r2 ST.out.len g _ ST.out.rb
   cases hq2 : dw Gq n1 r2 with
   | error er =>
    rw [hq2] at hc
    have HE := qh (show X = .error er by rw [← HX.out]; simp only [nV, fK, bT, iU, zA.out, Bu.out, hq2])
    have PP := qh ST.out.past
    have HC := qh hc
    clear hq2 hc ST
    refine HC.out.mono ?_
    rintro e wx ⟨rfl, px⟩
    refine ⟨rfl, ?_⟩
    rw [HE.out]
    exact ⟨rfl, PP.out.trans px⟩
   | ok x =>
    obtain ⟨l1, r3⟩ := x
    rw [hq2] at hc
    have sV := qh hq2
    have hl := bV (xy.list n1) hq2 ST.out.len
    have hb := ((xy.list n1).bwd _ _ _ hq2).1
    have HC := qh hc
    have HL := qh hl
    have HB := qh hb
    clear hq2 hc hl hb
    refine HC.out.mono ?_
    rintro e w3 ⟨v, rfl, hv, bx, px⟩
    obtain ⟨A1, rfl, lb⟩ := LB.mk hv
    have LB1 := qh lb
    clear hv lb
    have ST' := qh (ST.out.call px bx HL.out)
    clear ST bx px HC HL
    have ST := ST'
    clear ST'
    go_wp2_with ((with_reducible refine ag 13 12 ?_); refine aJ rfl 89 (.tmp 13) (.tmp 12) rfl rfl (w.heap.size + 1) 1 (.slice A1 l1.length l1.length) rfl rfl rfl 92 _ ST.out.k3 (by rw [di.arr]; omega) (by kernel_rfl) ?_; intro v3 ox bx; rw [aY.DL] at bx; have ST' := qh (ST.out.set ox bx ⟨LB1.out.only ox ST.out.k3 (by decide), (ST.out.tl.only ox ST.out.k3).outs, (ST.out.tl.only ox ST.out.k3).av, (ST.out.tl.only ox ST.out.k3).notes⟩); clear ST ox bx; have ST := ST'; clear ST')
    have hc := uO r3 ST.out.len g _ ST.out.rb
    cases hq3 : nJ r3 with
    | error er =>
     rw [hq3] at hc
     have HE := qh (show X = .error er by rw [← HX.out]; simp only [nV, fK, bT, iU, zA.out, Bu.out, sV.out, hq3])
     have PP := qh ST.out.past
     have HC := qh hc
     clear hq3 hc ST
     refine HC.out.mono ?_
     rintro e wx ⟨rfl, px⟩
     refine ⟨rfl, ?_⟩
     rw [HE.out]
     exact ⟨rfl, PP.out.trans px⟩
    | ok x =>
     obtain ⟨n2, r4⟩ := x
     rw [hq3] at hc
     have CY := qh hq3
     have hl := bV gV hq3 ST.out.len
     have hb := (gV.bwd _ _ _ hq3).1
     have HC := qh hc
     have HL := qh hl
     have HB := qh hb
     clear hq3 hc hl hb
     refine HC.out.mono ?_
     rintro e w4 ⟨v, rfl, rfl, bx, px⟩
     have ST' := qh (ST.out.call px bx HL.out)
     clear ST bx px HC HL
     have ST := ST'
     clear ST'
     have N2 := qh HB.out
     clear HB
     go_wp2_with fail
     have hc := Kn n2 (by have := N2.out; omega) r4 ST.out.len g _ ST.out.rb
     cases hq4 : dw sw n2 r4 with
     | error er =>
      rw [hq4] at hc
      have HE := qh (show X = .error er by rw [← HX.out]; simp only [nV, fK, bT, iU, zA.out, Bu.out, sV.out, CY.out, hq4])
      have PP := qh ST.out.past
      have HC := qh hc
      clear hq4 hc ST
      refine HC.out.mono ?_
      rintro e wx ⟨rfl, px⟩
      refine ⟨rfl, ?_⟩
      rw [HE.out]
      exact ⟨rfl, PP.out.trans px⟩
     | ok x =>
      obtain ⟨l2, r5⟩ := x
      rw [hq4] at hc
      have L9 := qh hq4
      have hl := bV (uI.list n2) hq4 ST.out.len
      have hb := ((uI.list n2).bwd _ _ _ hq4).1
      have HC := qh hc
      have HL := qh hl
      have HB := qh hb
      clear hq4 hc hl hb
      refine HC.out.mono ?_
      rintro e w5 ⟨v, rfl, hv, bx, px⟩
      obtain ⟨A2, rfl, lb⟩ := LB.mk hv
      have LB2 := qh lb
      clear hv lb
      have ST' := qh (ST.out.call px bx HL.out)
      clear ST bx px HC HL
      have ST := ST'
      clear ST'
      go_wp2_with ((with_reducible refine ag 19 18 ?_); refine aJ rfl 90 (.tmp 19) (.tmp 18) rfl rfl (w.heap.size + 1) 2 (.slice A2 l2.length l2.length) rfl rfl rfl 92 _ ST.out.k3 (by rw [di.arr]; omega) (by kernel_rfl) ?_; intro v5 ox bx; rw [aY.DK] at bx; have ST' := qh (ST.out.set ox bx ⟨(ST.out.tl.only ox ST.out.k3).ins, LB2.out.only ox ST.out.k3 (by decide), (ST.out.tl.only ox ST.out.k3).av, (ST.out.tl.only ox ST.out.k3).notes⟩); clear ST ox bx; have ST := ST'; clear ST')
      have hc := uO r5 ST.out.len g _ ST.out.rb
      cases Ez : nJ r5 with
      | error er =>
       rw [Ez] at hc
       have HE := qh (show X = .error er by rw [← HX.out]; simp only [nV, fK, bT, iU, mJ, zA.out, Bu.out, sV.out, CY.out, L9.out, Ez])
       have PP := qh ST.out.past
       have HC := qh hc
       clear Ez hc ST
       refine HC.out.mono ?_
       rintro e wx ⟨rfl, px⟩
       refine ⟨rfl, ?_⟩
       rw [HE.out]
       exact ⟨rfl, PP.out.trans px⟩
      | ok x =>
       obtain ⟨n3, Zh⟩ := x
       rw [Ez] at hc
       have zw := qh Ez
       have hl := bV gV Ez ST.out.len
       have hb := (gV.bwd _ _ _ Ez).1
       have HC := qh hc
       have HL := qh hl
       have HB := qh hb
       clear Ez hc hl hb
       refine HC.out.mono ?_
       rintro e w11 ⟨v, rfl, rfl, bx, px⟩
       have ST' := qh (ST.out.call px bx HL.out)
       clear ST bx px HC HL
       have ST := ST'
       clear ST'
       have N3 := qh HB.out
       clear HB
       by_cases h0 : n3 = 0
       ·have N0 := qh h0
        have hd : decide (0 < n3) = false := by simp only [decide_eq_false_iff_not]; omega
        clear h0
        go_wp2_with fail
        have hc := qN n3 (by have := N3.out; omega) Zh ST.out.len g _ ST.out.rb
        cases wW : dw gD n3 Zh with
        | error er =>
         rw [wW] at hc
         have HE := qh (show X = .error er by rw [← HX.out]; simp only [nV, fK, bT, iU, mJ, qp, if_pos N0.out, zA.out, Bu.out, sV.out, CY.out, L9.out, zw.out, wW])
         have PP := qh ST.out.past
         have HC := qh hc
         clear wW hc ST
         refine HC.out.mono ?_
         rintro e wx ⟨rfl, px⟩
         refine ⟨rfl, ?_⟩
         rw [HE.out]
         exact ⟨rfl, PP.out.trans px⟩
        | ok x =>
         obtain ⟨l3, r6⟩ := x
         rw [wW] at hc
         have TZ := qh wW
         have hl := bV (dn.list n3) wW ST.out.len
         have hb := ((dn.list n3).bwd _ _ _ wW).1
         have HC := qh hc
         have HL := qh hl
         have HB := qh hb
         clear wW hc hl hb
         refine HC.out.mono ?_
         rintro e w6 ⟨v, rfl, hv, bx, px⟩
         obtain ⟨A3, rfl, lb⟩ := LB.mk hv
         have LBB := qh lb
         clear hv lb
         have ST' := qh (ST.out.call px bx HL.out)
         clear ST bx px HC HL
         have ST := ST'
         clear ST'
         go_wp2_with ((with_reducible refine ag 31 30 ?_); refine aJ rfl 22 (.tmp 31) (.tmp 30) rfl rfl (w.heap.size + 1) 35 (.slice A3 l3.length l3.length) rfl rfl rfl 92 _ ST.out.k3 (by rw [di.arr]; omega) (by kernel_rfl) ?_; intro v6 ox bx; rw [aY.vD] at bx; have ST' := qh (ST.out.set ox bx ⟨(ST.out.tl.only ox ST.out.k3).ins, (ST.out.tl.only ox ST.out.k3).outs, LBB.out.only ox ST.out.k3 (by decide), (ST.out.tl.only ox ST.out.k3).notes⟩); clear ST ox bx; have ST := ST'; clear ST')
         have hc := uO r6 ST.out.len g _ ST.out.rb
         cases Ey : nJ r6 with
         | error er =>
          rw [Ey] at hc
          have HE := qh (show X = .error er by rw [← HX.out]; simp only [nV, fK, bT, iU, mJ, qp, if_pos N0.out, zA.out, Bu.out, sV.out, CY.out, L9.out, zw.out, TZ.out, Ey])
          have PP := qh ST.out.past
          have HC := qh hc
          clear Ey hc ST
          refine HC.out.mono ?_
          rintro e wx ⟨rfl, px⟩
          refine ⟨rfl, ?_⟩
          rw [HE.out]
          exact ⟨rfl, PP.out.trans px⟩
         | ok x =>
          obtain ⟨n4, r7⟩ := x
          rw [Ey] at hc
          have Wo := qh Ey
          have hl := bV gV Ey ST.out.len
          have hb := (gV.bwd _ _ _ Ey).1
          have HC := qh hc
          have HL := qh hl
          have HB := qh hb
          clear Ey hc hl hb
          refine HC.out.mono ?_
          rintro e w7 ⟨v, rfl, rfl, bx, px⟩
          have ST' := qh (ST.out.call px bx HL.out)
          clear ST bx px HC HL
          have ST := ST'
          clear ST'
          have N4 := qh HB.out
          clear HB
          go_wp2_with fail
          have hc := qN n4 (by have := N4.out; omega) r7 ST.out.len g _ ST.out.rb
          cases Ex : dw gD n4 r7 with
          | error er =>
           rw [Ex] at hc
           have HE := qh (show X = .error er by rw [← HX.out]; simp only [nV, fK, bT, iU, mJ, qp, if_pos N0.out, zA.out, Bu.out, sV.out, CY.out, L9.out, zw.out, TZ.out, Wo.out, Ex])
           have PP := qh ST.out.past
           have HC := qh hc
           clear Ex hc ST
           refine HC.out.mono ?_
           rintro e wx ⟨rfl, px⟩
           refine ⟨rfl, ?_⟩
           rw [HE.out]
           exact ⟨rfl, PP.out.trans px⟩
          | ok x =>
           obtain ⟨l4, r8⟩ := x
           rw [Ex] at hc
           have YP := qh Ex
           have hl := bV (dn.list n4) Ex ST.out.len
           have hb := ((dn.list n4).bwd _ _ _ Ex).1
           have HC := qh hc
           have HL := qh hl
           have HB := qh hb
           clear Ex hc hl hb
           refine HC.out.mono ?_
           rintro e w8 ⟨v, rfl, hv, bx, px⟩
           obtain ⟨A4, rfl, lb⟩ := LB.mk hv
           have LBC := qh lb
           clear hv lb
           have ST' := qh (ST.out.call px bx HL.out)
           clear ST bx px HC HL
           have ST := ST'
           clear ST'
           go_wp2_with ((with_reducible refine ag 37 36 ?_); refine aJ rfl 22 (.tmp 37) (.tmp 36) rfl rfl (w.heap.size + 1) 36 (.slice A4 l4.length l4.length) rfl rfl rfl 92 _ ST.out.k3 (by rw [di.arr]; omega) (by kernel_rfl) ?_; intro v8 ox bx; rw [aY.vE] at bx; have ST' := qh (ST.out.set ox bx ⟨(ST.out.tl.only ox ST.out.k3).ins, (ST.out.tl.only ox ST.out.k3).outs, (ST.out.tl.only ox ST.out.k3).av, LBC.out.only ox ST.out.k3 (by decide)⟩); clear ST ox bx; have ST := ST'; clear ST')
           have hc := Pj r8 ST.out.len g _ ST.out.rb
           cases hq8 : yQ r8 with
           | error er =>
            rw [hq8] at hc
            have HE := qh (show X = .error er by rw [← HX.out]; simp only [nV, fK, bT, iU, mJ, qp, if_pos N0.out, zA.out, Bu.out, sV.out, CY.out, L9.out, zw.out, TZ.out, Wo.out, YP.out, hq8])
            have PP := qh ST.out.past
            have HC := qh hc
            clear hq8 hc ST
            refine HC.out.mono ?_
            rintro e wx ⟨rfl, px⟩
            refine ⟨rfl, ?_⟩
            rw [HE.out]
            exact ⟨rfl, PP.out.trans px⟩
           | ok x =>
            obtain ⟨zb, r9⟩ := x
            rw [hq8] at hc
            have HQ8 := qh hq8
            have hl := bV lM hq8 ST.out.len
            have hb := (lM.bwd _ _ _ hq8).1
            have HC := qh hc
            have HL := qh hl
            have HB := qh hb
            clear hq8 hc hl hb
            refine HC.out.mono ?_
            rintro e w9 ⟨v, rfl, hv, bx, px⟩
            have hv' : v = .int .i64 zb.1 := hv
            subst hv'
            clear hv
            have ST' := qh (ST.out.call px bx HL.out)
            clear ST bx px HC HL
            have ST := ST'
            clear ST'
            have HE := qh (show X = .ok (⟨z0, l1, l2, ai, l3, l4, zb⟩, r9) by rw [← HX.out]; simp only [nV, fK, bT, iU, mJ, qp, if_pos N0.out, zA.out, Bu.out, sV.out, CY.out, L9.out, zw.out, TZ.out, Wo.out, YP.out, HQ8.out]; rfl)
            go_wp2_with (first
             | ((with_reducible refine ag 40 39 ?_); refine aJ rfl 2 (.tmp 40) (.tmp 39) rfl rfl (w.heap.size + 1) 37 (.int .i64 zb.1) rfl rfl rfl 92 _ ST.out.k3 (by rw [di.arr]; omega) (by kernel_rfl) ?_; intro v9 ox bx; rw [aY.Iz] at bx; have ST' := qh (ST.out.set ox bx ⟨(ST.out.tl.only ox ST.out.k3).ins, (ST.out.tl.only ox ST.out.k3).outs, (ST.out.tl.only ox ST.out.k3).av, (ST.out.tl.only ox ST.out.k3).notes⟩); clear ST ox bx; have ST := ST'; clear ST')
             | ((with_reducible refine az 3 ?_); refine di.af rfl (.tmp 3) rfl (w.heap.size + 1) 0 rfl _ (by simpa using au.ah ST.out.k3) ?_)
             | ((with_reducible refine ag 2 41 ?_); obtain ⟨cz, hcz, Vo⟩ := ST.out.k2; refine di.aj rfl (.tmp 2) (.tmp 41) rfl rfl w.heap.size _ rfl rfl 92 _ Vo hcz ?_; intro v10 ox bx))
            have hrb := ox.blk ST.out.rb (by have := ST.out.rb.wU Vo (by decide); simpa using this)
            have htl := ST.out.tl.only ox Vo
            have Zy := ST.out.past.new ox ST.out.new2
            refine bodyPost_ret (results_cell_row rfl _ _ w.heap.size 92 _ (0, 0) _ rfl bx Tryz.underlying92 rfl (by rw [di.arr]; kernel_rfl)) rfl ?_
            rw [HE.out]
            exact ⟨_, rfl, ⟨_, rfl, rfl, htl⟩, hrb, Zy⟩
       ·have N0 := qh h0
        have hd : decide (0 < n3) = true := by simp only [decide_eq_true_iff]; omega
        clear h0
        go_wp2_with fail
        have hc := IV Zh ST.out.len g _ ST.out.rb
        cases hq11 : gD Zh with
        | error er =>
         rw [hq11] at hc
         have HE := qh (show X = .error er by rw [← HX.out]; simp only [nV, fK, bT, iU, mJ, qp, if_neg N0.out, zA.out, Bu.out, sV.out, CY.out, L9.out, zw.out, hq11])
         have PP := qh ST.out.past
         have HC := qh hc
         clear hq11 hc ST
         refine HC.out.mono ?_
         rintro e wx ⟨rfl, px⟩
         refine ⟨rfl, ?_⟩
         rw [HE.out]
         exact ⟨rfl, PP.out.trans px⟩
        | ok x =>
         obtain ⟨k3, r12⟩ := x
         rw [hq11] at hc
         have QI := qh hq11
         have hl := bV dn hq11 ST.out.len
         have hb := (dn.bwd _ _ _ hq11).1
         have HC := qh hc
         have HL := qh hl
         have HB := qh hb
         clear hq11 hc hl hb
         refine HC.out.mono ?_
         rintro e w12 ⟨v, rfl, hv, bx, px⟩
         have hv' : v = .agg (ak k3).toArray := hv
         subst hv'
         clear hv
         have ST' := qh (ST.out.call px bx HL.out)
         clear ST bx px HC HL
         have ST := ST'
         clear ST'
         go_wp2_with ((with_reducible refine ag 26 25 ?_); refine bL.dO rfl (.tmp 26) (.tmp 25) rfl rfl (w.heap.size + 1) 3 k3 rfl rfl 92 _ ST.out.k3 (by rw [aY.len]; omega) ?_; intro v12 ox bx; rw [aY.Gj] at bx; have ST' := qh (ST.out.set ox bx ⟨(ST.out.tl.only ox ST.out.k3).ins, (ST.out.tl.only ox ST.out.k3).outs, (ST.out.tl.only ox ST.out.k3).av, (ST.out.tl.only ox ST.out.k3).notes⟩); clear ST ox bx; have ST := ST'; clear ST')
         have hc := qN n3 (by have := N3.out; omega) r12 ST.out.len g _ ST.out.rb
         cases wW : dw gD n3 r12 with
         | error er =>
          rw [wW] at hc
          have HE := qh (show X = .error er by rw [← HX.out]; simp only [nV, fK, bT, iU, mJ, qp, if_neg N0.out, zA.out, Bu.out, sV.out, CY.out, L9.out, zw.out, QI.out, wW])
          have PP := qh ST.out.past
          have HC := qh hc
          clear wW hc ST
          refine HC.out.mono ?_
          rintro e wx ⟨rfl, px⟩
          refine ⟨rfl, ?_⟩
          rw [HE.out]
          exact ⟨rfl, PP.out.trans px⟩
         | ok x =>
          obtain ⟨l3, r6⟩ := x
          rw [wW] at hc
          have TZ := qh wW
          have hl := bV (dn.list n3) wW ST.out.len
          have hb := ((dn.list n3).bwd _ _ _ wW).1
          have HC := qh hc
          have HL := qh hl
          have HB := qh hb
          clear wW hc hl hb
          refine HC.out.mono ?_
          rintro e w6 ⟨v, rfl, hv, bx, px⟩
          obtain ⟨A3, rfl, lb⟩ := LB.mk hv
          have LBB := qh lb
          clear hv lb
          have ST' := qh (ST.out.call px bx HL.out)
          clear ST bx px HC HL
          have ST := ST'
          clear ST'
          go_wp2_with ((with_reducible refine ag 31 30 ?_); refine aJ rfl 22 (.tmp 31) (.tmp 30) rfl rfl (w.heap.size + 1) 35 (.slice A3 l3.length l3.length) rfl rfl rfl 92 _ ST.out.k3 (by rw [di.arr]; omega) (by kernel_rfl) ?_; intro v6 ox bx; rw [aY.vD] at bx; have ST' := qh (ST.out.set ox bx ⟨(ST.out.tl.only ox ST.out.k3).ins, (ST.out.tl.only ox ST.out.k3).outs, LBB.out.only ox ST.out.k3 (by decide), (ST.out.tl.only ox ST.out.k3).notes⟩); clear ST ox bx; have ST := ST'; clear ST')
          have hc := uO r6 ST.out.len g _ ST.out.rb
          cases Ey : nJ r6 with
          | error er =>
           rw [Ey] at hc
           have HE := qh (show X = .error er by rw [← HX.out]; simp only [nV, fK, bT, iU, mJ, qp, if_neg N0.out, zA.out, Bu.out, sV.out, CY.out, L9.out, zw.out, QI.out, TZ.out, Ey])
           have PP := qh ST.out.past
           have HC := qh hc
           clear Ey hc ST
           refine HC.out.mono ?_
           rintro e wx ⟨rfl, px⟩
           refine ⟨rfl, ?_⟩
           rw [HE.out]
           exact ⟨rfl, PP.out.trans px⟩
          | ok x =>
           obtain ⟨n4, r7⟩ := x
           rw [Ey] at hc
           have Wo := qh Ey
           have hl := bV gV Ey ST.out.len
           have hb := (gV.bwd _ _ _ Ey).1
           have HC := qh hc
           have HL := qh hl
           have HB := qh hb
           clear Ey hc hl hb
           refine HC.out.mono ?_
           rintro e w7 ⟨v, rfl, rfl, bx, px⟩
           have ST' := qh (ST.out.call px bx HL.out)
           clear ST bx px HC HL
           have ST := ST'
           clear ST'
           have N4 := qh HB.out
           clear HB
           go_wp2_with fail
           have hc := qN n4 (by have := N4.out; omega) r7 ST.out.len g _ ST.out.rb
           cases Ex : dw gD n4 r7 with
           | error er =>
            rw [Ex] at hc
            have HE := qh (show X = .error er by rw [← HX.out]; simp only [nV, fK, bT, iU, mJ, qp, if_neg N0.out, zA.out, Bu.out, sV.out, CY.out, L9.out, zw.out, QI.out, TZ.out, Wo.out, Ex])
            have PP := qh ST.out.past
            have HC := qh hc
            clear Ex hc ST
            refine HC.out.mono ?_
            rintro e wx ⟨rfl, px⟩
            refine ⟨rfl, ?_⟩
            rw [HE.out]
            exact ⟨rfl, PP.out.trans px⟩
           | ok x =>
            obtain ⟨l4, r8⟩ := x
            rw [Ex] at hc
            have YP := qh Ex
            have hl := bV (dn.list n4) Ex ST.out.len
            have hb := ((dn.list n4).bwd _ _ _ Ex).1
            have HC := qh hc
            have HL := qh hl
            have HB := qh hb
            clear Ex hc hl hb
            refine HC.out.mono ?_
            rintro e w8 ⟨v, rfl, hv, bx, px⟩
            obtain ⟨A4, rfl, lb⟩ := LB.mk hv
            have LBC := qh lb
            clear hv lb
            have ST' := qh (ST.out.call px bx HL.out)
            clear ST bx px HC HL
            have ST := ST'
            clear ST'
            go_wp2_with ((with_reducible refine ag 37 36 ?_); refine aJ rfl 22 (.tmp 37) (.tmp 36) rfl rfl (w.heap.size + 1) 36 (.slice A4 l4.length l4.length) rfl rfl rfl 92 _ ST.out.k3 (by rw [di.arr]; omega) (by kernel_rfl) ?_; intro v8 ox bx; rw [aY.vE] at bx; have ST' := qh (ST.out.set ox bx ⟨(ST.out.tl.only ox ST.out.k3).ins, (ST.out.tl.only ox ST.out.k3).outs, (ST.out.tl.only ox ST.out.k3).av, LBC.out.only ox ST.out.k3 (by decide)⟩); clear ST ox bx; have ST := ST'; clear ST')
            have hc := Pj r8 ST.out.len g _ ST.out.rb
            cases hq8 : yQ r8 with
            | error er =>
             rw [hq8] at hc
             have HE := qh (show X = .error er by rw [← HX.out]; simp only [nV, fK, bT, iU, mJ, qp, if_neg N0.out, zA.out, Bu.out, sV.out, CY.out, L9.out, zw.out, QI.out, TZ.out, Wo.out, YP.out, hq8])
             have PP := qh ST.out.past
             have HC := qh hc
             clear hq8 hc ST
             refine HC.out.mono ?_
             rintro e wx ⟨rfl, px⟩
             refine ⟨rfl, ?_⟩
             rw [HE.out]
             exact ⟨rfl, PP.out.trans px⟩
            | ok x =>
             obtain ⟨zb, r9⟩ := x
             rw [hq8] at hc
             have HQ8 := qh hq8
             have hl := bV lM hq8 ST.out.len
             have hb := (lM.bwd _ _ _ hq8).1
             have HC := qh hc
             have HL := qh hl
             have HB := qh hb
             clear hq8 hc hl hb
             refine HC.out.mono ?_
             rintro e w9 ⟨v, rfl, hv, bx, px⟩
             have hv' : v = .int .i64 zb.1 := hv
             subst hv'
             clear hv
             have ST' := qh (ST.out.call px bx HL.out)
             clear ST bx px HC HL
             have ST := ST'
             clear ST'
             have HE := qh (show X = .ok (⟨z0, l1, l2, k3, l3, l4, zb⟩, r9) by rw [← HX.out]; simp only [nV, fK, bT, iU, mJ, qp, if_neg N0.out, zA.out, Bu.out, sV.out, CY.out, L9.out, zw.out, QI.out, TZ.out, Wo.out, YP.out, HQ8.out]; rfl)
             go_wp2_with (first
              | ((with_reducible refine ag 40 39 ?_); refine aJ rfl 2 (.tmp 40) (.tmp 39) rfl rfl (w.heap.size + 1) 37 (.int .i64 zb.1) rfl rfl rfl 92 _ ST.out.k3 (by rw [di.arr]; omega) (by kernel_rfl) ?_; intro v9 ox bx; rw [aY.Iz] at bx; have ST' := qh (ST.out.set ox bx ⟨(ST.out.tl.only ox ST.out.k3).ins, (ST.out.tl.only ox ST.out.k3).outs, (ST.out.tl.only ox ST.out.k3).av, (ST.out.tl.only ox ST.out.k3).notes⟩); clear ST ox bx; have ST := ST'; clear ST')
              | ((with_reducible refine az 3 ?_); refine di.af rfl (.tmp 3) rfl (w.heap.size + 1) 0 rfl _ (by simpa using au.ah ST.out.k3) ?_)
              | ((with_reducible refine ag 2 41 ?_); obtain ⟨cz, hcz, Vo⟩ := ST.out.k2; refine di.aj rfl (.tmp 2) (.tmp 41) rfl rfl w.heap.size _ rfl rfl 92 _ Vo hcz ?_; intro v10 ox bx))
             have hrb := ox.blk ST.out.rb (by have := ST.out.rb.wU Vo (by decide); simpa using this)
             have htl := ST.out.tl.only ox Vo
             have Zy := ST.out.past.new ox ST.out.new2
             refine bodyPost_ret (results_cell_row rfl _ _ w.heap.size 92 _ (0, 0) _ rfl bx Tryz.underlying92 rfl (by rw [di.arr]; kernel_rfl)) rfl ?_
             rw [HE.out]
             exact ⟨_, rfl, ⟨_, rfl, rfl, htl⟩, hrb, Zy⟩
end
section
open Go.RowKit
theorem TL.Uy {w w' : World} {g : Nat} {a : aY} (h : TL w a) {t : TypeId} {cs : Array Value} (ho : Only [g] w w') (hg : ax w g t cs) (h1 : 142 ≠ t) (h2 : 144 ≠ t) (h3 : 26 ≠ t) : TL w' a :=
 ⟨h.ins.only ho hg h1, h.outs.only ho hg h2, h.av.only ho hg h3, h.notes.only ho hg h3⟩
def Xv (er : Int) : List PanicEntry := [{ v := .iface 30 (.int .i64 er), recovered := false }]
theorem Js (v : Value) (w : World) : (Instr.typeAssert (.iface 30 v) 20 30 false).run Tryz.prog w = .ok v w := by kernel_rfl
theorem Dx (p q : Addr) (w : World) :
 CallsD Tryz.prog 253 #[.pointer (some p), .pointer (some q)] .returning w fun e u' w' => e = .returned (.tuple #[]) ∧ u' = .returning ∧ w' = w := by
 refine callsD_of_wpS Tryz.func253 rfl fun c₀ cs hu => ?_
 apply wpS_seq
 apply wpS_region
 simp [wpOpsS, go_sem, recoverD, hu, Tryz.ntmps253, Exit.thenS]
 apply wpS_seq
 apply wpS_region
 simp [wpOpsS, go_sem, Exit.thenS]
 refine wpS_cond (t := false) (by simp [Act.eval, Array.replicate]) ?_
 simp only [Bool.false_eq_true, if_false]
 refine wpS_of_wp (wp_skip ?_)
 cases c₀
 simp_all [bodyPostS, results, Tryz.results253]
theorem vB (p q : Nat) (er : Int) (w : World) (cs : Array Value) (hcs : cs.size = 38) (hp : ax w p 92 cs) (hq : ax w q 30 #[.int .i64 0]) (hpq : p ≠ q) :
 CallsD Tryz.prog 253 #[.pointer (some ⟨p, 0, none⟩), .pointer (some ⟨q, 0, none⟩)] (.panicking (Xv er)) w fun e u' w' =>
  e = .returned (.tuple #[]) ∧ u' = .panicking [{ v := .iface 30 (.int .i64 er), recovered := true }] ∧ Only [p, q] w w' ∧ ax w' p 92 aZ.cells.toArray ∧ ax w' q 30 #[.int .i64 er] := by
 have HP := qh hp
 have HQ := qh hq
 clear hp hq
 refine callsD_of_wpS Tryz.func253 rfl fun c₀ cs hu => ?_
 apply wpS_seq
 apply wpS_region
 simp [wpOpsS, go_sem, recoverD, hu, Xv, Tryz.ntmps253, Exit.thenS]
 apply wpS_seq
 apply wpS_region
 simp [wpOpsS, go_sem, Exit.thenS]
 refine wpS_cond (t := true) (by simp [Act.eval, Array.replicate]) ?_
 simp only [if_true]
 refine wpS_of_wp ?_
 have has := Js
 simp only [Array.replicate, List.replicate, List.append_toArray, List.cons_append, List.nil_append, List.setIfInBounds_toArray, List.set_cons_succ, List.set_cons_zero]
 refine wp_region_held_drew (S := fun w' => Only [p, q] w w' ∧ (∃ cs : Array Value, cs.size = 38 ∧ ax w' p 92 cs) ∧ ∃ v, ax w' q 30 #[v]) (by kernel_rfl) ⟨(Only.refl _ _).drew, ⟨_, hcs, HP.out.drew⟩, ⟨_, HQ.out.drew⟩⟩ ?_
 intro hS0
 refine wpAnyH_take (i := 0) (v := .agg aZ.cells.toArray) rfl (by kernel_rfl) (by kernel_rfl) (by kernel_rfl) (fun _ _ _ h => h) (bH (by rfl) 92 #[] rfl aZ.cells.toArray (by kernel_rfl)) hS0 ?_
 go_simp
 refine wpAnyH_take (i := 1) (v := .iface 30 (.int .i64 er)) rfl (by kernel_rfl) (by kernel_rfl) (by kernel_rfl) (fun _ _ _ h => h) (Or.inl ⟨by rfl, fun W _ => by go_simp; try with_reducible rfl⟩) hS0 ?_
 go_simp
 refine wpAnyH_take (i := 2) (v := .int .i64 er) rfl (by kernel_rfl) (by kernel_rfl) (by kernel_rfl) (fun _ _ _ h => h) (Or.inl ⟨by rfl, fun W _ => by go_simp; try with_reducible rfl⟩) hS0 ?_
 go_simp
 obtain ⟨c1, h1, k1⟩ := hS0.2.1
 obtain ⟨v1, k2⟩ := hS0.2.2
 refine rd 3 rfl (fun Kq hK => ?_)
 refine iD rfl 92 (.tmp 0) (.tmp 6) rfl rfl p aZ.cells.toArray rfl rfl 92 _ k1 (by rw [di.arr]; kernel_rfl) (by rw [di.arr, h1]) (by rw [List.all_toArray, List.all_eq_true]; exact di.one _) ?_
 intro w2 o2 b2
 have k2' := o2.blk k2 (by simpa using fun e => hpq e.symm)
 refine hK.out _ _ ⟨hS0.1.trans (o2.mono (by simp)), ⟨_, di.arr _, b2⟩, ⟨_, k2'⟩⟩ (fun hS1 => ?_)
 clear hK Kq
 have kc := k2'.cell 0
 have kz := k2'.frozen 0
 refine rd 4 rfl (fun Kq hK => ?_)
 go_simp
 have o3 : Only [q] w2 (w2.setCell ⟨q, 0, none⟩ (.int .i64 er)) := (Only.refl _ _).setCell (by simp) _
 have b3 := k2'.zI 0 (.int .i64 er)
 refine hK.out _ _ ⟨hS1.1.trans (o3.mono (by simp)), ⟨_, di.arr _, o3.blk b2 (by simpa using hpq)⟩, ⟨_, b3⟩⟩ (fun hS2 => ?_)
 clear hK Kq
 refine wpAnyH_done (by kernel_rfl) ?_ _
 have f1 := hS2.1
 have f2 := o3.blk b2 (by simpa using hpq)
 have f3 : ax (w2.setCell ⟨q, 0, none⟩ (.int .i64 er)) q 30 #[.int .i64 er] := b3
 simp [bodyPostS, results, Tryz.results253]
 exact ⟨f1, f2, f3⟩
theorem OI (a : aY) {w : World} {g : Nat} (h : ax w g 92 a.cells.toArray) : (loadVar 92 ⟨g, 0, none⟩).run Tryz.prog w = .ok (.agg a.cells.toArray) w := di.load w g 0 a (by simpa using au.ah h)
theorem IM {w : World} {g : Nat} {v : Value} (h : ax w g 30 #[v]) : (loadVar 30 ⟨g, 0, none⟩).run Tryz.prog w = .ok v w := fP Tryz.isAgg30 ((h.cell 0).trans rfl)
theorem LH {P : Program} {ops : Array Oper} {rest : List Oper} {a : Act} {w : World} {Q : Exit → Act → World → Prop} {ty kG : TypeId} {v : Value} {pos : String} {after : Array Edge} (i : Nat)
 (h : wpList P ops Q ({ dst := none, op := .store ty (.tmp i) (.const v), type := kG, pos := pos, after := after, guard := none } :: rest) a w) :
 wpList P ops Q ({ dst := none, op := .store ty (.tmp i) (.const v), type := kG, pos := pos, after := after, guard := none } :: rest) a w := h
def aaJ (g : Nat) (w : World) (x : Except Int (dX × List UInt8)) (e : Ending) (w' : World) : Prop :=
 match x with
 | .ok (T, r) => ∃ a : aY, a.T = T ∧ e = .returned (.tuple #[.agg a.cells.toArray, .int .i64 0]) ∧ TL w' a ∧ Rb w' g r ∧ Past g w w'
 | .error er => e = .returned (.tuple #[.agg aZ.cells.toArray, .int .i64 er]) ∧ Past g w w'
theorem Xh (l : List UInt8) (hs : l.length ≤ 1000000) (g : Nat) (w : World) (hr : Rb w g l) :
 Calls Tryz.prog 197 #[.pointer (some ⟨g, 0, none⟩)] w (aaJ g w (nV l)) := by
 have ED : ∀ (fn : Fn) (first cap : Array Value) (w : World), (Instr.makeFunc fn first cap).run Tryz.prog w = .ok (.func fn first cap) w := fun _ _ _ _ => rfl
 have hc := Z9 l hs g
 have hlg : g < w.heap.size := hr.lt
 have LZ := qh (fun c2 c3 => (show Rb ((w.alloc (.cells c2 92)).alloc (.cells c3 30)) g l from (hr.alloc _).alloc _))
 have WR := qh (fun c2 c3 => (show Past g w ((w.alloc (.cells c2 92)).alloc (.cells c3 30)) from Past.of_below (((Below.refl _ _).alloc (Nat.le_refl _) _).alloc (by simp) _)))
 clear hr
 cases hq : nV l with
 | error er =>
  rw [hq] at hc
  have HC := qh hc
  clear hq hc
  go_enter_defers Tryz.func197, Tryz.ntmps197
  go_wp2_with fail
  refine (HC.out _ (LZ.out _ _)).mono ?_
  rintro e w1 ⟨rfl, px⟩
  have k2 := px.blk ((ax.new w 92 _).alloc _) (by omega)
  have k3 := px.blk (bg (g := w.heap.size + 1) 30 _ (by simp)) (by omega)
  have pp := (WR.out _ _).trans px
  refine leaves_cons (f := 253) (args := #[.pointer (some ⟨w.heap.size, 0, none⟩), .pointer (some ⟨w.heap.size + 1, 0, none⟩)]) (by simp) (by simp [go_sem]) ?_
  refine (vB w.heap.size (w.heap.size + 1) er _ _ rfl k2 k3 (by omega)).mono ?_
  rintro e u' w2 ⟨rfl, rfl, o2, b2, b3⟩
  have l2 := OI aZ b2
  have l3 := IM b3
  have pf : Past g w w2 := ⟨o2.os.trans pp.os, o2.tape.trans pp.tape, o2.output.trans pp.output, Nat.le_trans pp.size (Nat.le_of_eq o2.size.symm), fun i hi hg => (o2.block i (by simp; omega)).trans (pp.block i hi hg)⟩
  clear b2 b3 o2 k2 k3
  exact ⟨_, pY rfl _ _ _ _ rfl rfl l2 l3, rfl, pf⟩
 | ok x =>
  obtain ⟨T, r⟩ := x
  rw [hq] at hc
  have HC := qh hc
  clear hq hc
  go_enter_defers Tryz.func197, Tryz.ntmps197
  go_wp2_with fail
  refine (HC.out _ (LZ.out _ _)).mono ?_
  rintro e w1 ⟨v, rfl, ⟨a, rfl, rfl, ain⟩, bx, px⟩
  have k2 := px.blk ((ax.new w 92 _).alloc _) (by omega)
  have k3 := px.blk (bg (g := w.heap.size + 1) 30 _ (by simp)) (by omega)
  have pp := (WR.out _ _).trans px
  have K2 := qh k2
  have K3 := qh k3
  have PP := qh pp
  have BX := qh bx
  have AIN := qh ain
  have l1 : w.heap.size + 1 < w1.heap.size := k3.lt
  have z3 := k3.frozen 0
  have c3 := k3.cell 0
  clear k2 k3 pp bx ain px LZ WR HC
  go_wp2_with (first
   | ((with_reducible refine ag 2 6 ?_); refine di.aj rfl (.tmp 2) (.tmp 6) rfl rfl w.heap.size a rfl rfl 92 _ K2.out rfl ?_; intro w2 o2 b2)
   | ((with_reducible refine LH 3 ?_); refine aF rfl 30 (.tmp 3) (.const (.int .i64 0)) rfl rfl (w.heap.size + 1) (.int .i64 0) rfl rfl rfl 30 _ (o2.blk K3.out (by simp)) (by kernel_rfl) ?_; intro w3 o3 b3))
  refine leaves_cons (f := 253) (args := #[.pointer (some ⟨w.heap.size, 0, none⟩), .pointer (some ⟨w.heap.size + 1, 0, none⟩)]) (by simp) (by simp [go_sem]) ?_
  refine (Dx ⟨w.heap.size, 0, none⟩ ⟨w.heap.size + 1, 0, none⟩ _).mono ?_
  rintro e u' w4 ⟨rfl, rfl, rfl⟩
  have l2 := OI a (o3.blk b2 (by simp))
  have l3 := IM b3
  have pf : Past g w w4 := (PP.out.new o2 (Nat.le_refl _)).new o3 (by omega)
  exact ⟨_, pY rfl _ _ _ _ rfl rfl l2 l3, a, rfl, rfl, (AIN.out.only o2 K2.out).Uy o3 (o2.blk K3.out (by simp)) (by decide) (by decide) (by decide), o3.blk (o2.blk BX.out (by simp; omega)) (by simp; omega), pf⟩
end
section
open Go.RowKit
theorem Yx : aZ.T = Kc := by
 unfold aZ jl Kc ai dF tL
 rfl
theorem Xj (w : World) : TL w aZ := ⟨.inl ⟨rfl, rfl, rfl⟩, .inl ⟨rfl, rfl, rfl⟩, .inl ⟨rfl, rfl, rfl⟩, .inl ⟨rfl, rfl, rfl⟩⟩
theorem TL.below {w w' : World} {a : aY} (h : TL w a) (hb : Below w.heap.size w w') : TL w' a := by
 have lb : ∀ {α : Type} {enc : α → List Value} {e : TypeId} {A : Option Addr} {c : Nat} {l : List α}, LB enc e w A c l → LB enc e w' A c l := by
  intro α enc e A c l h
  rcases h with h | ⟨b, h1, h2, h3⟩
  ·exact .inl h
  ·exact .inr ⟨b, h1, h2, aa hb h3 h3.lt⟩
 exact ⟨lb h.ins, lb h.outs, lb h.av, lb h.notes⟩
theorem TL.Ay {w w' : World} {g : Nat} {a : aY} (h : TL w a) {cs : Array Value} (ho : Only [g] w w') (hg : ax w g 92 cs) : TL w' a := h.Uy ho hg (by decide) (by decide) (by decide)
def YZ (w : World) (x : dX × List UInt8 × Int) (e : Ending) (w' : World) : Prop :=
 (∃ a : aY, a.T = x.1 ∧ e = .returned (.tuple #[.agg a.cells.toArray, .string ⟨x.2.1.toArray⟩, .int .i64 x.2.2]) ∧ TL w' a) ∧ Below w.heap.size w w'
theorem Vb (l : List UInt8) (hs : l.length ≤ 1000000) (w : World) :
 Calls Tryz.prog 133 #[.string ⟨l.toArray⟩] w (YZ w (og l)) := by
 have hc := Xh l hs (w.heap.size + 1)
 have LZ := qh (fun c2 => (show Rb ((w.alloc (.cells c2 92)).alloc (.cells #[.string ⟨l.toArray⟩] 288)) (w.heap.size + 1) l from bg _ _ (by simp)))
 cases hq : nV l with
 | error er =>
  rw [show og l = (Kc, [], er) by unfold og; rw [hq]]
  have he0 : er ≠ 0 := by rcases Ct l er hq with h | h | h <;> omega
  have hd : (er == 0) = false := beq_eq_false_iff_ne.mpr he0
  rw [hq] at hc
  have HC := qh hc
  clear hq hc he0
  go_enter Tryz.func133, Tryz.ntmps133
  go_wp2_with fail
  refine (HC.out _ (LZ.out _)).mono ?_
  rintro e w1 ⟨rfl, px⟩
  have K2 := qh (px.blk ((ax.new w 92 _).alloc _) (by omega))
  have B1 : Below w.heap.size w w1 := (((Below.refl _ _).alloc (Nat.le_refl _) _).alloc (by simp) _).trans (px.below (by omega) (by simp; omega))
  have BH := qh B1
  have l1 : w.heap.size < w1.heap.size := K2.out.lt
  clear px B1 HC LZ
  go_wp2_with (first
   | ((with_reducible refine ag 6 14 ?_); refine di.aj rfl (.tmp 6) (.tmp 14) rfl rfl w1.heap.size aZ rfl rfl 92 _ (ax.new w1 _ _) rfl ?_; intro w2 o2 b2)
   | ((with_reducible refine bW 18 ?_); refine bu rfl 92 #[] rfl aZ.cells.toArray (by kernel_rfl) ?_)
   | ((with_reducible refine ag 2 18 ?_); refine di.aj rfl (.tmp 2) (.tmp 18) rfl rfl w.heap.size aZ rfl rfl 92 _ (o2.blk (K2.out.alloc _) (by simp; omega)) rfl ?_; intro w3 o3 b3))
  exact bodyPost_ret (iq rfl _ _ w.heap.size 92 _ (0, 0) _ rfl b3 Tryz.underlying92 rfl (by rw [di.arr]; kernel_rfl)) rfl ⟨⟨aZ, Yx, rfl, Xj _⟩, ((BH.out.alloc BH.out.size _).trans (o2.below (by simp; exact BH.out.size))).trans (o3.below (by simp))⟩
 | ok x =>
  obtain ⟨T, r⟩ := x
  rw [show og l = (T, r, 0) by unfold og; rw [hq]]
  rw [hq] at hc
  have HC := qh hc
  clear hq hc
  go_enter Tryz.func133, Tryz.ntmps133
  go_wp2_with fail
  refine (HC.out _ (LZ.out _)).mono ?_
  rintro e w1 ⟨a, rfl, rfl, tl, rb, px⟩
  have K2 := qh (px.blk ((ax.new w 92 _).alloc _) (by omega))
  have B1 : Below w.heap.size w w1 := (((Below.refl _ _).alloc (Nat.le_refl _) _).alloc (by simp) _).trans (px.below (by omega) (by simp; omega))
  have BH := qh B1
  have l1 : w.heap.size + 1 < w1.heap.size := rb.lt
  have UU := qh tl
  have HRB := qh rb
  clear px B1 HC LZ tl rb
  go_wp2_with ((with_reducible refine ag 6 14 ?_); refine di.aj rfl (.tmp 6) (.tmp 14) rfl rfl w1.heap.size a rfl rfl 92 _ (ax.new w1 _ _) rfl ?_; intro w2 o2 b2)
  have K6 := qh b2
  have TL2 := qh ((UU.out.below ((Below.refl _ _).alloc (Nat.le_refl _) _)).Ay o2 (ax.new w1 92 _))
  replace K2 := qh (o2.blk (K2.out.alloc _) (by simp; omega))
  have RB2 := qh (o2.blk (HRB.out.alloc _) (by simp; omega))
  have B2 := qh ((BH.out.alloc BH.out.size _).trans (o2.below (by simp; exact BH.out.size)))
  clear b2 o2 UU HRB BH
  refine wp_region_held_drew (S := fun w' => Below w.heap.size w w' ∧ (∃ cs : Array Value, cs.size = 38 ∧ ax w' w.heap.size 92 cs) ∧ ax w' w1.heap.size 92 a.cells.toArray ∧ Rb w' (w.heap.size + 1) r ∧ TL w' a) (by kernel_rfl) ⟨B2.out.drew, ⟨_, rfl, K2.out.drew⟩, K6.out.drew, RB2.out.drew, TL2.out.below (Below.refl _ _).drew⟩ ?_
  clear K2 K6 B2 RB2 TL2
  generalize w2.drew = wd at *
  intro hS0
  refine wpAnyH_take (i := 0) (v := .agg a.cells.toArray) rfl (by kernel_rfl) (by kernel_rfl) (by kernel_rfl) (fun _ _ _ h => h) (eU (by rfl) 92 (.tmp 6) rfl w1.heap.size rfl 92 a.cells.toArray _ (fun _ h => h.2.2.1) Tryz.underlying92 rfl (by rw [di.arr]; kernel_rfl)) hS0 ?_
  go_simp
  refine wpAnyH_take (i := 1) (v := .pointer (some ⟨w.heap.size + 1, 0, none⟩)) rfl (by kernel_rfl) (by kernel_rfl) (by kernel_rfl) (fun _ _ _ h => h) (Or.inl ⟨by rfl, fun W _ => by go_simp; try with_reducible rfl⟩) hS0 ?_
  go_simp
  refine wpAnyH_take (i := 2) (v := .pointer (some ⟨w.heap.size + 1, 0, none⟩)) rfl (by kernel_rfl) (by kernel_rfl) (by kernel_rfl) (fun _ _ _ h => h) (Or.inl ⟨by rfl, fun W _ => by go_simp; try with_reducible rfl⟩) hS0 ?_
  go_simp
  refine wpAnyH_take (i := 3) (v := .pointer (some ⟨w.heap.size + 1, 0, none⟩)) rfl (by kernel_rfl) (by kernel_rfl) (by kernel_rfl) (fun _ _ _ h => h) (Or.inl ⟨by rfl, fun W _ => by go_simp; try with_reducible rfl⟩) hS0 ?_
  go_simp
  refine wpAnyH_take (i := 4) (v := .string ⟨r.toArray⟩) rfl (by kernel_rfl) (by kernel_rfl) (by kernel_rfl) (fun _ _ _ h => h) (Or.inl ⟨by rfl, fun W hW => by have hcell := hW.2.2.2.1.cell 0; go_simp; try with_reducible rfl⟩) hS0 ?_
  go_simp
  obtain ⟨c1, h1, k1⟩ := hS0.2.1
  refine rd 5 rfl (fun Kq hK => ?_)
  refine iD rfl 92 (.tmp 2) (.tmp 20) rfl rfl w.heap.size a.cells.toArray rfl rfl 92 _ k1 (by rw [di.arr]; kernel_rfl) (by rw [di.arr, h1]) (by rw [List.all_toArray, List.all_eq_true]; exact di.one _) ?_
  intro w3 o3 b3
  refine hK.out _ _ ⟨hS0.1.trans (o3.below (by simp)), ⟨_, di.arr _, b3⟩, o3.blk hS0.2.2.1 (by simp; omega), o3.blk hS0.2.2.2.1 (by simp), hS0.2.2.2.2.Ay o3 k1⟩ (fun hS1 => ?_)
  clear hK Kq
  refine rd 6 rfl (fun Kq hK => ?_)
  go_simp
  refine hK.out _ _ hS1 (fun _ => ?_)
  clear hK Kq
  refine rd 7 rfl (fun Kq hK => ?_)
  go_simp
  refine hK.out _ _ hS1 (fun _ => ?_)
  clear hK Kq
  refine wpAnyH_done (by kernel_rfl) ?_ _
  go_wp2_with fail
  exact bodyPost_ret (iq rfl _ _ w.heap.size 92 _ (0, 0) _ rfl b3 Tryz.underlying92 rfl (by rw [di.arr]; kernel_rfl)) rfl ⟨⟨a, rfl, rfl, hS1.2.2.2.2⟩, hS1.1⟩
end
section
open Go.RowKit
end
section
open Go.RowKit
theorem mD : cu Tryz.prog 68 92 aY.cells 38 := ⟨Tryz.underlying68, by kernel_rfl, aY.len, aY.one, Tryz.isAgg92, by omega⟩
structure mR (w : World) (B : Nat) (A : Option Addr) (c : Nat) (l : List aY) : Prop where
 row : aK aY.cells 38 w B A c l
 each : ∀ t ∈ l, t.In w B
section
variable {w w' : World} {B B' c : Nat} {A : Option Addr} {l : List aY}
theorem mR.below (h : mR w B A c l) (hb : Below B w w') : mR w' B A c l := ⟨h.row.below hb, fun t ht => (h.each t ht).below hb⟩
theorem mR.more (h : mR w B A c l) (hB : B ≤ B') : mR w B' A c l := ⟨h.row.more hB, fun t ht => (h.each t ht).more hB⟩
theorem mR.on (h : mR w B A c l) (hb : Below B w w') (hB : B ≤ w.heap.size) : mR w' w'.heap.size A c l := (h.below hb).more (Nat.le_trans hB hb.size)
end
structure bF where
 prev : aS
 root : aS
 iR : aQ .u32
 bG : List aY
 A : Option Addr
 c : Nat
def bF.B (b : bF) : bK := ⟨b.prev, b.root, b.iR, b.bG.map aY.T⟩
def bF.cells (b : bF) : List Value := ak b.prev ++ (ak b.root ++ [.int .u32 b.iR.1, .slice b.A b.bG.length b.c])
def bF.In (w : World) (B : Nat) (b : bF) : Prop := mR w B b.A b.c b.bG
theorem bF.len (b : bF) : b.cells.length = 66 := by
 unfold bF.cells
 rw [List.length_append, List.length_append, aC, aC]
 rfl
theorem bF.one (b : bF) : ∀ v ∈ b.cells, v.oneCell' = true := by
 intro v hv
 unfold bF.cells at hv
 simp only [List.mem_append, List.mem_cons, List.not_mem_nil, or_false] at hv
 rcases hv with h | h | rfl | rfl
 ·exact fI _ v h
 ·exact fI _ v h
 ·rfl
 ·rfl
theorem fe : cZ Tryz.prog 70 bF.cells 66 := ⟨by kernel_rfl, bF.len, bF.one, Tryz.isAgg70⟩
section
variable {w w' : World} {B B' g : Nat} {b : bF}
theorem bF.In.below (h : b.In w B) (hb : Below B w w') : b.In w' B := mR.below h hb
theorem bF.In.more (h : b.In w B) (hB : B ≤ B') : b.In w B' := mR.more h hB
theorem bF.In.on (h : b.In w B) (hb : Below B w w') (hB : B ≤ w.heap.size) : b.In w' w'.heap.size := mR.on h hb hB
theorem bF.c0 (h : au w g 0 b.cells) : au w g 0 (ak b.prev) := h.left
theorem bF.c1 (h : au w g 0 b.cells) : au w g 32 (ak b.root) := by
 have := h.right
 rw [aC] at this
 exact this.left
theorem bF.c2 (h : au w g 0 b.cells) : w.cell? ⟨g, 64, none⟩ = some (.int .u32 b.iR.1) := by
 have := h.right
 rw [aC] at this
 have := this.right
 rw [aC] at this
 exact this.head
theorem bF.c3 (h : au w g 0 b.cells) : w.cell? ⟨g, 65, none⟩ = some (.slice b.A b.bG.length b.c) := by
 have := h.right
 rw [aC] at this
 have := this.right
 rw [aC] at this
 exact this.tail.head
theorem bF.JC (b : bF) (z : aQ .u32) : b.cells.toArray.setIfInBounds 64 (.int .u32 z.1) = ({ b with iR := z } : bF).cells.toArray := by
 have h1 := aC b.prev
 have h2 := aC b.root
 simp [bF.cells, h1, h2]
theorem bF.Iy (b : bF) (l : List aY) (A : Option Addr) (c : Nat) : b.cells.toArray.setIfInBounds 65 (.slice A l.length c) = ({ b with bG := l, A := A, c := c } : bF).cells.toArray := by
 have h1 := aC b.prev
 have h2 := aC b.root
 simp [bF.cells, h1, h2]
theorem bF.DJ (b : bF) (k : aS) : (b.cells.take 0 ++ ak k ++ b.cells.drop (0 + 32)) = ({ b with prev := k } : bF).cells := by
 have h1 := aC b.prev
 simp [bF.cells, h1]
theorem bF.xS (b : bF) (k : aS) : (b.cells.take 32 ++ ak k ++ b.cells.drop (32 + 32)) = ({ b with root := k } : bF).cells := by
 have h1 := aC b.prev
 have h2 := aC b.root
 unfold bF.cells
 rw [List.take_append_of_le_length (by omega), List.take_of_length_le (by omega), List.drop_append, List.drop_of_length_le (by omega), List.nil_append, h1, List.drop_append, List.drop_of_length_le (by omega), h2]
 simp
end
def bZ : bF := ⟨ai, ai, jl.exp, [], none, 0⟩
end
section
def dG : List dX → Except Int (List UInt8)
 | [] => .ok []
 | T :: l => if (fA T).2 = 0 then (match dG l with
  | .ok s => .ok ((fA T).1 ++ s)
  | .error e => .error e) else .error (fA T).2
theorem vU {T : dX} (h : (fA T).2 = 0) : ry T ∧ (fA T).1 = vz T := by
 rcases sN T with ⟨h1, h2⟩ | h2 | h2
 ·exact ⟨h1, by rw [h2]⟩
 ·rw [h2] at h; simp at h
 ·rw [h2] at h; simp at h
theorem KW {T : dX} (h : (fA T).2 ≠ 0) : (fA T).1 = [] ∧ ((fA T).2 = 51 ∨ (fA T).2 = 1) := by
 rcases sN T with ⟨_, h2⟩ | h2 | h2
 ·rw [h2] at h; simp at h
 ·rw [h2]; exact ⟨rfl, .inl rfl⟩
 ·rw [h2]; exact ⟨rfl, .inr rfl⟩
theorem Be : ∀ l : List dX, (∀ T ∈ l, ry T) → dG l = .ok (l.flatMap vz)
 | [], _ => rfl
 | T :: l, h => by
  have h1 := xA T (h T (by simp))
  unfold dG
  rw [h1, Be l (fun U hU => h U (by simp [hU]))]
  simp
theorem y8 : ∀ (l : List dX) (s : List UInt8), dG l = .ok s → ∀ T ∈ l, ry T
 | [], _, _, T, hT => by cases hT
 | U :: l, s, h, T, hT => by
  unfold dG at h
  split at h
  ·rename_i h0
   split at h
   ·rename_i s' e
    rcases List.mem_cons.1 hT with rfl | hT'
    ·exact (vU h0).1
    ·exact y8 l s' e T hT'
   ·cases h
  ·cases h
theorem oK : ∀ (l : List dX) (e : Int), dG l = .error e → e = 51 ∨ e = 1
 | [], _, h => by cases h
 | U :: l, e, h => by
  unfold dG at h
  split at h
  ·split at h
   ·cases h
   ·rename_i e' q
    injection h with h
    exact h ▸ oK l e' q
  ·rename_i h0
   injection h with h
   rw [← h]
   exact (KW h0).2
theorem Fa (l : List dX) (T : dX) (s : List UInt8) (h : dG l = .ok s) : dG (l ++ [T]) = if (fA T).2 = 0 then .ok (s ++ (fA T).1) else .error (fA T).2 := by
 induction l generalizing s with
 | nil =>
  injection h with h
  subst h
  show dG [T] = _
  unfold dG
  split
  ·simp [dG]
  ·rfl
 | cons U l ih =>
  rw [List.cons_append]
  unfold dG at h ⊢
  split at h
  ·rename_i h0
   rw [if_pos h0]
   split at h
   ·rename_i s' e
    injection h with h
    rw [ih s' e]
    subst h
    by_cases hT : (fA T).2 = 0
    ·rw [if_pos hT, if_pos hT]
     simp
    ·rw [if_neg hT, if_neg hT]
   ·cases h
  ·cases h
theorem Cv (l m : List dX) (T : dX) (s : List UInt8) (h : dG l = .ok s) (h0 : (fA T).2 ≠ 0) : dG (l ++ T :: m) = .error (fA T).2 := by
 induction l generalizing s with
 | nil =>
  show dG (T :: m) = _
  unfold dG
  rw [if_neg h0]
 | cons U l ih =>
  rw [List.cons_append]
  unfold dG at h ⊢
  split at h
  ·rename_i hU
   rw [if_pos hU]
   split at h
   ·rename_i s' e
    rw [ih s' e]
   ·cases h
  ·cases h
def I1 (prev root : aS) (iR : aQ .u32) (n : Nat) : List UInt8 := prev.1 ++ (root.1 ++ (bD iR.1.toNat 4 ++ cmpL n))
def gX (B : bK) : List UInt8 × Int :=
 if B.bG.length = 0 then ([], 110) else if 30 < B.bG.length then ([], 51) else match dG B.bG with
  | .ok s => (I1 B.prev B.root B.iR B.bG.length ++ s, 0)
  | .error e => ([], e)
theorem za (B : bK) (h : pI B) : gX B = (nu B, 0) := by
 obtain ⟨h1, h2, h3⟩ := h
 unfold gX
 rw [if_neg (by omega), if_neg (by omega), Be _ h3]
 unfold nu Q9 I1
 simp only [List.append_assoc]
theorem wF (B : bK) : (pI B ∧ gX B = (nu B, 0)) ∨ ∃ e, gX B = ([], e) ∧ (e = 110 ∨ e = 51 ∨ e = 1) := by
 by_cases h0 : B.bG.length = 0
 ·exact .inr ⟨110, by unfold gX; rw [if_pos h0], .inl rfl⟩
 by_cases h1 : 30 < B.bG.length
 ·exact .inr ⟨51, by unfold gX; rw [if_neg h0, if_pos h1], .inr (.inl rfl)⟩
 cases h : dG B.bG with
 | ok s =>
  have hok : pI B := ⟨by omega, by omega, y8 _ _ h⟩
  exact .inl ⟨hok, za B hok⟩
 | error e =>
  refine .inr ⟨e, by unfold gX; rw [if_neg h0, if_neg h1, h], ?_⟩
  rcases oK _ _ h with q | q
  ·exact .inr (.inl q)
  ·exact .inr (.inr q)
theorem BS (l : List Nat) (k : Nat) (h : ∀ x ∈ l, x ≤ k) : l.sum ≤ k * l.length := by
 induction l with
 | nil => simp
 | cons a l ih =>
  rw [List.sum_cons, List.length_cons, Nat.mul_add, Nat.mul_one]
  have := h a (by simp)
  have := ih (fun x hx => h x (by simp [hx]))
  omega
def dz (l : List dX) : List aS := l.flatMap (·.notes)
def JB (T : dX) : Nat := if gy T then 0 else T.ins.length
def jW (l : List dX) : Nat := (l.map JB).sum
theorem MJ (l : List dX) (h : ∀ T ∈ l, T.ins.length ≤ 60) : jW l ≤ 60 * l.length := by
 unfold jW
 have := BS (l.map JB) 60 (fun x hx => by
  obtain ⟨T, hT, rfl⟩ := List.mem_map.1 hx
  unfold JB
  have := h T hT
  split <;> omega)
 rwa [List.length_map] at this
theorem Gi (l : List dX) (T : dX) : jW (l ++ [T]) = jW l + JB T := by
 unfold jW
 rw [List.map_append, List.sum_append]
 simp
theorem En (l : List dX) (T : dX) : dz (l ++ [T]) = dz l ++ T.notes := by
 unfold dz
 rw [List.flatMap_append]
 simp
theorem Gy (l : List dX) (h : ∀ T ∈ l, T.notes.length ≤ 60) : (dz l).length ≤ 60 * l.length := by
 unfold dz
 rw [List.length_flatMap]
 have := BS (l.map fun T => T.notes.length) 60 (fun x hx => by
  obtain ⟨T, hT, rfl⟩ := List.mem_map.1 hx
  exact h T hT)
 rwa [List.length_map] at this
end
section
open Go.RowKit
def ku (b : bK) : Bool := decide (40 < b.bG.length) || b.bG.any sJ
end
section
end
section
open Go.RowKit
def QM {α : Type} (V : α → Value) (z : Value) (w : World) (x : Except Int (α × List UInt8)) (e : Ending) (w' : World) : Prop :=
 Below w.heap.size w w' ∧ match x with
 | .ok (a, r) => e = .returned (.tuple #[V a, .string ⟨r.toArray⟩, .int .i64 0])
 | .error er => e = .returned (.tuple #[z, .string ⟨#[]⟩, .int .i64 er])
abbrev Df (n : Nat) : Value := .int .u64 n
abbrev Zd (k : aS) : Value := .agg (ak k).toArray
end
section
open Go.RowKit
structure TO (w : World) (a : aY) : Prop where
 ins : w.ownsRow 0 142 33 (.slice a.Ai a.T.ins.length a.ci) a.T.ins.length (cellsOf (aR .u32) a.T.ins)
 outs : w.ownsRow 0 144 33 (.slice a.Ao a.T.outs.length a.co) a.T.outs.length (cellsOf (dR .i64) a.T.outs)
 av : w.ownsRow 0 26 32 (.slice a.An a.T.av.length a.cn) a.T.av.length (cellsOf ak a.T.av)
 notes : w.ownsRow 0 26 32 (.slice a.At a.T.notes.length a.ct) a.T.notes.length (cellsOf ak a.T.notes)
section
variable {w w' : World} {a : aY}
theorem TO.AJ (h : TO w a) : a.In w w.heap.size := ⟨dm (fT _) h.ins, dm (fU _) h.outs, dm aC h.av, dm aC h.notes⟩
end
theorem Uz {α : Type} {W : α → List UInt8} {R : Rd α} {V : α → Prop} (h : Good W R V) {l r : List UInt8} {x : α} (e : R l = .ok (x, r)) : V x := (h.bwd _ _ _ e).1
end
section
open Go.RowKit
end
section
open Go.RowKit
end
section
open Go.RowKit
end
end Go.Proofs.YtnpmpeoojncjhaaGreatDoor
