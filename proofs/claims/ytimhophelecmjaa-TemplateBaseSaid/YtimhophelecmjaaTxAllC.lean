/- TxAllC: TxN, TxO, TxPa, TxPc, TxRe, TxEq, in one text. -/
import Derived.Test.YtimhophelecmjaaTxAllB
import Derived.Test.YtimhophelecmjaaGenA
import Derived.Test.YtimhophelecmjaaCodAll
import Derived.Test.YtimhophelecmjaaTxAllA
/- Plain: the document's Read of a transaction, place by place. -/
namespace Go.Proofs.Ytimhophelecmjaa
def partR : Nat → TxV → Rd TxV
  | 0, T => mapR (fun z => { T with exp := z }) u32R
  | 1, T => mapR (fun l => { T with ins := l }) (manyR ptR)
  | 2, T => mapR (fun l => { T with outs := l }) (manyR outR)
  | 3, T => mapR (fun x => { T with anchor := x.1, nulls := x.2 }) nullR
  | 4, T => mapR (fun l => { T with notes := l }) (manyR keyR)
  | _, T => mapR (fun z => { T with bal := z }) i64R
def goR : Nat → TxV → Rd TxV
  | 0, T => fun s => .ok (T, s)
  | m + 1, T => fun s => match partR (5 - m) T s with
    | .error e => .error e
    | .ok (T', r) => goR m T' r
theorem goR_tx (s : List UInt8) : goR 6 noTx s = txR s := by
  unfold txR
  simp only [goR, partR, mapR, thenR, Nat.sub_self, show 5 - 4 = 1 from rfl, show 5 - 3 = 2 from rfl, show 5 - 2 = 3 from rfl, show 5 - 1 = 4 from rfl, show 5 - 0 = 5 from rfl]
  cases u32R s with
  | error e => rfl
  | ok x =>
    obtain ⟨z, r⟩ := x
    simp only []
    cases manyR ptR r with
    | error e => rfl
    | ok x =>
      obtain ⟨l1, r⟩ := x
      simp only []
      cases manyR outR r with
      | error e => rfl
      | ok x =>
        obtain ⟨l2, r⟩ := x
        simp only []
        cases nullR r with
        | error e => rfl
        | ok x =>
          obtain ⟨l3, r⟩ := x
          simp only []
          cases manyR keyR r with
          | error e => rfl
          | ok x =>
            obtain ⟨l4, r⟩ := x
            simp only []
            cases i64R r with
            | error e => rfl
            | ok x => rfl
theorem errs_part : ∀ p T, Errs (partR p T)
  | 0, _ => (errs_get 4).map.map
  | 1, _ => (errs_many (errs_key.then_ fun _ => (errs_get 4).map)).map
  | 2, _ => (errs_many ((errs_get 8).map.then_ fun _ => errs_key)).map
  | 3, _ => (errs_num.then_ fun n => (errs_anc n).then_ fun _ => errs_key.list n).map.map
  | 4, _ => (errs_many errs_key).map
  | _ + 5, _ => (errs_get 8).map.map
/-- what is left is no longer -/
def Short {α : Type} (R : Rd α) : Prop := ∀ s a r, R s = .ok (a, r) → r.length ≤ s.length
theorem Good.short {α : Type} {W : α → List UInt8} {R : Rd α} {V : α → Prop} (h : Good W R V) : Short R := fun s a r e => by
  rw [(h.bwd _ _ _ e).2, List.length_append]
  omega
theorem Short.map {α β : Type} {f : α → β} {R : Rd α} (h : Short R) : Short (mapR f R) := fun s b r e => by
  unfold mapR at e
  split at e
  · cases e
  · rename_i a r1 e1
    injection e with e
    injection e with e2 e3
    exact e3 ▸ h _ _ _ e1
theorem short_part : ∀ p T, Short (partR p T)
  | 0, _ => good_u32.short.map
  | 1, _ => good_pt.many.short.map
  | 2, _ => good_out.many.short.map
  | 3, _ => good_null.short.map
  | 4, _ => good_key.many.short.map
  | _ + 5, _ => good_i64.short.map
end Go.Proofs.Ytimhophelecmjaa
/- The document's Read of a transaction: a number, a key, how many, keys. -/
namespace Go.Proofs.Ytimhophelecmjaa
open Go.RowKit
/-- how a function of the document's ends that takes something off the bytes -/
def EndG {α : Type} (V : α → Value) (z : Value) (w : World) (x : Except Int (α × List UInt8)) (e : Ending) (w' : World) : Prop :=
  Below w.heap.size w w' ∧ match x with
  | .ok (a, r) => e = .returned (.tuple #[V a, .string ⟨r.toArray⟩, .int .i64 0])
  | .error er => e = .returned (.tuple #[z, .string ⟨#[]⟩, .int .i64 er])
abbrev vu64 (n : Nat) : Value := .int .u64 n
abbrev vi64 (n : Nat) : Value := .int .i64 n
abbrev vky (k : K32) : Value := .agg (encK k).toArray
/-- how keys ends: a slice of its own, with room behind -/
def EndKs (w : World) (x : Except Int (List K32 × List UInt8)) (e : Ending) (w' : World) : Prop :=
  Below w.heap.size w w' ∧ match x with
  | .ok (l, r) => ∃ A c, e = .returned (.tuple #[.slice A l.length c, .string ⟨r.toArray⟩, .int .i64 0]) ∧ w'.ownsRow w.heap.size 24 32 (.slice A l.length c) l.length (cellsOf encK l)
  | .error er => e = .returned (.tuple #[.slice none 0 0, .string ⟨#[]⟩, .int .i64 er])
end Go.Proofs.Ytimhophelecmjaa
/- The document's part of a transaction, place by place. Written by genPart.py. -/
namespace Go.Proofs.Ytimhophelecmjaa
open Go.RowKit
/-- the lists of a transaction lie in blocks of their types -/
structure TO (w : World) (a : TxA) : Prop where
  ins : w.ownsRow 0 43 33 (.slice a.Ai a.T.ins.length a.ci) a.T.ins.length (cellsOf (encKI .u32) a.T.ins)
  outs : w.ownsRow 0 37 33 (.slice a.Ao a.T.outs.length a.co) a.T.outs.length (cellsOf (encIK .i64) a.T.outs)
  nulls : w.ownsRow 0 24 32 (.slice a.An a.T.nulls.length a.cn) a.T.nulls.length (cellsOf encK a.T.nulls)
  notes : w.ownsRow 0 24 32 (.slice a.At a.T.notes.length a.ct) a.T.notes.length (cellsOf encK a.T.notes)
section
variable {w w' : World} {a : TxA}
theorem TO.inn (h : TO w a) : a.In w w.heap.size := ⟨row_own (encKI_len _) h.ins, row_own (encIK_len _) h.outs, row_own encK_len h.nulls, row_own encK_len h.notes⟩
theorem TO.from (h : TO w a) (b : Below w.heap.size w w') : TO w' a := ⟨xown_from h.ins b, xown_from h.outs b, xown_from h.nulls b, xown_from h.notes b⟩
theorem TO.only {g : Nat} {cs : Array Value} (h : TO w a) (o : Only [g] w w') (hg : Blk w g 29 cs) : TO w' a := ⟨xown_only h.ins o hg (by decide), xown_only h.outs o hg (by decide), xown_only h.nulls o hg (by decide), xown_only h.notes o hg (by decide)⟩
theorem TO.exp (h : TO w a) (z : IntV .u32) : TO w { a with T := { a.T with exp := z } } := ⟨h.ins, h.outs, h.nulls, h.notes⟩
theorem TO.bal (h : TO w a) (z : IntV .i64) : TO w { a with T := { a.T with bal := z } } := ⟨h.ins, h.outs, h.nulls, h.notes⟩
theorem TO.anchor (h : TO w a) (k : K32) : TO w { a with T := { a.T with anchor := k } } := ⟨h.ins, h.outs, h.nulls, h.notes⟩
theorem TO.setIns (h : TO w a) (l : List (K32 × IntV .u32)) (A : Option Addr) (c : Nat) {b : Nat} (ho : w.ownsRow b 43 33 (.slice A l.length c) l.length (cellsOf (encKI .u32) l)) : TO w { a with T := { a.T with ins := l }, Ai := A, ci := c } := ⟨xown_base ho (Nat.zero_le _), h.outs, h.nulls, h.notes⟩
theorem TO.setOuts (h : TO w a) (l : List (IntV .i64 × K32)) (A : Option Addr) (c : Nat) {b : Nat} (ho : w.ownsRow b 37 33 (.slice A l.length c) l.length (cellsOf (encIK .i64) l)) : TO w { a with T := { a.T with outs := l }, Ao := A, co := c } := ⟨h.ins, xown_base ho (Nat.zero_le _), h.nulls, h.notes⟩
theorem TO.setNulls (h : TO w a) (l : List K32) (A : Option Addr) (c : Nat) {b : Nat} (ho : w.ownsRow b 24 32 (.slice A l.length c) l.length (cellsOf encK l)) : TO w { a with T := { a.T with nulls := l }, An := A, cn := c } := ⟨h.ins, h.outs, xown_base ho (Nat.zero_le _), h.notes⟩
theorem TO.setNotes (h : TO w a) (l : List K32) (A : Option Addr) (c : Nat) {b : Nat} (ho : w.ownsRow b 24 32 (.slice A l.length c) l.length (cellsOf encK l)) : TO w { a with T := { a.T with notes := l }, At := A, ct := c } := ⟨h.ins, h.outs, h.nulls, xown_base ho (Nat.zero_le _)⟩
theorem TO.zero (w : World) : TO w aZ := ⟨World.ownsRow_nil _ _ _ _, World.ownsRow_nil _ _ _ _, World.ownsRow_nil _ _ _ _, World.ownsRow_nil _ _ _ _⟩
end
/-- what part wants of a transaction -/
structure PtI (p : Nat) (w : World) (a : TxA) : Prop where
  to : TO w a
  ins : p ≤ 1 → a.Ai = none ∧ a.ci = 0 ∧ a.T.ins = []
  outs : p ≤ 2 → a.Ao = none ∧ a.co = 0 ∧ a.T.outs = []
  anc : p ≤ 3 → a.T.anchor = zeroKey
/-- how part ends -/
def EndP (p : Nat) (w : World) (x : Except Int (TxV × List UInt8)) (e : Ending) (w' : World) : Prop :=
  Below w.heap.size w w' ∧ match x with
  | .ok (T, r) => ∃ b : TxA, b.T = T ∧ e = .returned (.tuple #[.agg b.cells.toArray, .string ⟨r.toArray⟩, .int .i64 0]) ∧ PtI (p + 1) w' b
  | .error er => ∃ (b : TxA) (r : List UInt8), e = .returned (.tuple #[.agg b.cells.toArray, .string ⟨r.toArray⟩, .int .i64 er])
/-- what lies there while part is at work: the transaction, then the answer's place -/
structure PtS (w0 : World) (a : TxA) (w : World) : Prop where
  below : Below w0.heap.size w0 w
  size : w0.heap.size + 2 ≤ w.heap.size
  k2 : ∃ cs : Array Value, cs.size = 38 ∧ Blk w (w0.heap.size + 1) 29 cs
  k3 : Blk w w0.heap.size 29 a.cells.toArray
section
variable {w0 w w' : World} {a a' : TxA}
theorem PtS.step (h : PtS w0 a w) (b : Below (w0.heap.size + 2) w w') : PtS w0 a w' where
  below := h.below.trans (b.mono (by omega))
  size := Nat.le_trans h.size b.size
  k2 := by obtain ⟨cs, h1, h2⟩ := h.k2; exact ⟨cs, h1, below_blk b h2 (by omega)⟩
  k3 := below_blk b h.k3 (by omega)
theorem PtS.call (h : PtS w0 a w) (b : Below w.heap.size w w') : PtS w0 a w' := h.step (b.mono h.size)
theorem PtS.set (h : PtS w0 a w) (o : Only [w0.heap.size] w w') (b : Blk w' w0.heap.size 29 a'.cells.toArray) : PtS w0 a' w' where
  below := h.below.trans (o.below (by simp))
  size := by rw [o.size]; exact h.size
  k2 := by obtain ⟨cs, h1, h2⟩ := h.k2; exact ⟨cs, h1, o.blk h2 (by simp)⟩
  k3 := b
theorem PtS.two (cs cs' : Array Value) (hc : cs.size = 38) (hc' : cs' = a.cells.toArray) : PtS w0 a ((w0.alloc (.cells cs' 29)).alloc (.cells cs 29)) where
  below := ((Below.refl _ _).alloc (Nat.le_refl _) _).alloc (by simp) _
  size := by simp
  k2 := ⟨cs, hc, blk_new _ _ (by simp)⟩
  k3 := hc' ▸ (Blk.new _ _ _).alloc _
end
def ontoL {α : Type} (f : α → TxV) (x : Except Int (α × List UInt8)) : Except Int (TxV × List UInt8) := match x with
  | .error e => .error e
  | .ok (l, r) => .ok (f l, r)
theorem ok_of {α : Type} {W : α → List UInt8} {R : Rd α} {V : α → Prop} (h : Good W R V) {l r : List UInt8} {x : α} (e : R l = .ok (x, r)) : V x := (h.bwd _ _ _ e).1
end Go.Proofs.Ytimhophelecmjaa
/- The document's Read and Decode of a transaction. Written by genPc.py. -/
namespace Go.Proofs.Ytimhophelecmjaa
open Go.RowKit
theorem goR_step : ∀ p : Nat, p ≤ 5 → ∀ (T : TxV) (r : List UInt8), goR (6 - p) T r = match partR p T r with
    | .error e => .error e
    | .ok (T', r') => goR (6 - (p + 1)) T' r'
  | 0, _, _, _ => rfl
  | 1, _, _, _ => rfl
  | 2, _, _, _ => rfl
  | 3, _, _, _ => rfl
  | 4, _, _, _ => rfl
  | 5, _, _, _ => rfl
  | n + 6, h, _, _ => absurd h (by omega)
/-- what lies there while Read is at work: the answer's place, then the transaction -/
structure ReS (w0 : World) (a : TxA) (w : World) : Prop where
  below : Below w0.heap.size w0 w
  size : w0.heap.size + 2 ≤ w.heap.size
  k2 : ∃ cs : Array Value, cs.size = 38 ∧ Blk w w0.heap.size 29 cs
  k3 : Blk w (w0.heap.size + 1) 29 a.cells.toArray
section
variable {w0 w w' : World} {a a' : TxA} {p : Nat}
theorem ReS.call (h : ReS w0 a w) (b : Below w.heap.size w w') : ReS w0 a w' where
  below := h.below.trans (b.mono (by have := h.size; omega))
  size := Nat.le_trans h.size b.size
  k2 := by obtain ⟨cs, h1, h2⟩ := h.k2; exact ⟨cs, h1, below_blk b h2 (by have := h.size; omega)⟩
  k3 := below_blk b h.k3 (by have := h.size; omega)
theorem ReS.set (h : ReS w0 a w) (o : Only [w0.heap.size + 1] w w') (b : Blk w' (w0.heap.size + 1) 29 a'.cells.toArray) : ReS w0 a' w' where
  below := h.below.trans (o.below (by simp))
  size := by rw [o.size]; exact h.size
  k2 := by obtain ⟨cs, h1, h2⟩ := h.k2; exact ⟨cs, h1, o.blk h2 (by simp)⟩
  k3 := b
theorem PtI.from (h : PtI p w a) (b : Below w.heap.size w w') : PtI p w' a := ⟨h.to.from b, h.ins, h.outs, h.anc⟩
theorem PtI.only {g : Nat} {cs : Array Value} (h : PtI p w a) (o : Only [g] w w') (hg : Blk w g 29 cs) : PtI p w' a := ⟨h.to.only o hg, h.ins, h.outs, h.anc⟩
end
theorem PtI.zero (w : World) : PtI 0 w aZ := ⟨TO.zero w, fun _ => ⟨rfl, rfl, rfl⟩, fun _ => ⟨rfl, rfl, rfl⟩, fun _ => by rw [aZ_no]; rfl⟩
def rdX (x : Except Int (TxV × List UInt8)) : TxV × List UInt8 × Int := match x with
  | .error e => (noTx, [], e)
  | .ok (T, r) => (T, r, 0)
/-- what the document's Read answers -/
def EndRI (w : World) (x : TxV × List UInt8 × Int) (e : Ending) (w' : World) : Prop :=
  (∃ a : TxA, a.T = x.1 ∧ e = .returned (.tuple #[.agg a.cells.toArray, .string ⟨x.2.1.toArray⟩, .int .i64 x.2.2]) ∧ TO w' a) ∧ Below w.heap.size w w'
theorem EndRI.mk {w w' : World} {x : TxV × List UInt8 × Int} {e : Ending} (a : TxA) (h1 : a.T = x.1) (h2 : e = .returned (.tuple #[.agg a.cells.toArray, .string ⟨x.2.1.toArray⟩, .int .i64 x.2.2])) (h3 : TO w' a) (h4 : Below w.heap.size w w') : EndRI w x e w' := ⟨⟨a, h1, h2, h3⟩, h4⟩
/-- what the document's Decode answers -/
def EndDI (w : World) (x : TxV × Int) (e : Ending) (w' : World) : Prop :=
  (∃ a : TxA, a.T = x.1 ∧ e = .returned (.tuple #[.agg a.cells.toArray, .int .i64 x.2]) ∧ TO w' a) ∧ Below w.heap.size w w'
end Go.Proofs.Ytimhophelecmjaa
/- The document's Encode of a transaction. Written by genREnc.py. -/
namespace Go.Proofs.Ytimhophelecmjaa
open Go.RowKit
theorem rPut_r (n wd : Nat) (h1 : 1 ≤ wd) (h8 : wd ≤ 8) (w : World) :
    Calls Try.prog 18 #[.int .u64 n, .int .i64 wd] w fun e w' => e = .returned (.string ⟨(putL n wd).toArray⟩) ∧ Below w.heap.size w w' := by
  have h := refPut_any n wd w
  rw [show putF n (wd : Int) = putL n wd by unfold putF; rw [if_neg (by omega)]; rfl] at h
  exact h
theorem rPut4_r (n : Nat) (w : World) :
    Calls Try.prog 18 #[.int .u64 n, .int .i64 4] w fun e w' => e = .returned (.string ⟨(putL n 4).toArray⟩) ∧ Below w.heap.size w w' := rPut_r n 4 (by omega) (by omega) w
theorem rPut8_r (n : Nat) (w : World) :
    Calls Try.prog 18 #[.int .u64 n, .int .i64 8] w fun e w' => e = .returned (.string ⟨(putL n 8).toArray⟩) ∧ Below w.heap.size w w' := rPut_r n 8 (by omega) (by omega) w
theorem rBytes_r (k : K32) (w : World) :
    Calls Try.prog 20 #[.agg (encK k).toArray] w fun e w' => e = .returned (.string ⟨k.1.toArray⟩) ∧ Below w.heap.size w w' := by
  rw [encK_arr]
  exact crefBytes_any k.1 k.2 w
/-- what lies there while Encode is at work -/
structure EnS (w0 : World) (a : TxA) (w : World) : Prop where
  below : Below w0.heap.size w0 w
  ka : Blk w w0.heap.size 29 a.cells.toArray
  ia : a.In w w.heap.size
theorem EnS.call {w0 w w' : World} {a : TxA} (h : EnS w0 a w) (hb : Below w.heap.size w w') : EnS w0 a w' where
  below := h.below.trans (hb.mono h.below.size)
  ka := below_blk hb h.ka h.ka.lt
  ia := h.ia.on hb (Nat.le_refl _)
theorem EnS.one {w0 : World} {a : TxA} (h : a.In w0 w0.heap.size) : EnS w0 a (w0.alloc (.cells a.cells.toArray 29)) where
  below := (Below.refl _ _).alloc (Nat.le_refl _) _
  ka := Blk.new _ _ _
  ia := h.on ((Below.refl _ _).alloc (Nat.le_refl _) _) (Nat.le_refl _)
theorem below_cell {B : Nat} {w w' : World} (h : Below B w w') {p : Addr} {v : Value} (hc : w.cell? p = some v) (hp : p.block < B) : w'.cell? p = some v := (h.cell hp).trans hc
theorem take_flat {α : Type} (W : α → List UInt8) (P : List UInt8) (l : List α) (j : Nat) (hj : j < l.length) : P ++ (l.take (j + 1)).flatMap W = (P ++ (l.take j).flatMap W) ++ W l[j] := by
  rw [List.take_succ_eq_append_getElem hj, List.flatMap_append, List.append_assoc]
  simp
theorem take_all {α : Type} (W : α → List UInt8) (P : List UInt8) (l : List α) : P ++ (l.take l.length).flatMap W = P ++ l.flatMap W := by rw [List.take_length]
set_option maxRecDepth 20000 in
theorem rEnc_many (a : TxA) (w : World) (hx : 40 < a.T.ins.length ∨ 40 < a.T.outs.length ∨ 40 < a.T.nulls.length ∨ 40 < a.T.notes.length) :
    Calls Try.prog 11 #[.agg a.cells.toArray] w fun e w' => e = .returned (encV (encF a.T)) ∧ Below w.heap.size w w' := by
  rw [show encF a.T = ([], 51) by unfold encF; rw [if_pos hx]]
  have hb : RowC (w.alloc (.cells a.cells.toArray 29)) w.heap.size 0 a.cells := RowC.of_blk (Blk.new _ _ _)
  have c1 := TxA.c1 hb
  have c2 := TxA.c2 hb
  have c4 := TxA.c4 hb
  have c5 := TxA.c5 hb
  have B := Lib.hid (show Below w.heap.size w (w.alloc (.cells a.cells.toArray 29)) from (Below.refl _ _).alloc (Nat.le_refl _) _)
  clear hb
  unfold encV
  by_cases h1 : 40 < a.T.ins.length
  · have hd0 : decide ((40 : Int) < (a.T.ins.length : Int)) = true := by simp; omega
    go_enter Try.func11, Try.ntmps11
    go_wp2
    go_ret2
    exact ⟨rfl, B.out⟩
  by_cases h2 : 40 < a.T.outs.length
  · have hd0 : decide ((40 : Int) < (a.T.ins.length : Int)) = false := by simp; omega
    have hd1 : decide ((40 : Int) < (a.T.outs.length : Int)) = true := by simp; omega
    go_enter Try.func11, Try.ntmps11
    go_wp2
    go_ret2
    exact ⟨rfl, B.out⟩
  by_cases h3 : 40 < a.T.nulls.length
  · have hd0 : decide ((40 : Int) < (a.T.ins.length : Int)) = false := by simp; omega
    have hd1 : decide ((40 : Int) < (a.T.outs.length : Int)) = false := by simp; omega
    have hd2 : decide ((40 : Int) < (a.T.nulls.length : Int)) = true := by simp; omega
    go_enter Try.func11, Try.ntmps11
    go_wp2
    go_ret2
    exact ⟨rfl, B.out⟩
  have h4 : 40 < a.T.notes.length := by omega
  have hd0 : decide ((40 : Int) < (a.T.ins.length : Int)) = false := by simp; omega
  have hd1 : decide ((40 : Int) < (a.T.outs.length : Int)) = false := by simp; omega
  have hd2 : decide ((40 : Int) < (a.T.nulls.length : Int)) = false := by simp; omega
  have hd3 : decide ((40 : Int) < (a.T.notes.length : Int)) = true := by simp; omega
  go_enter Try.func11, Try.ntmps11
  go_wp2
  go_ret2
  exact ⟨rfl, B.out⟩
set_option maxRecDepth 20000 in
theorem rEnc_arg (a : TxA) (w : World) (hx : a.T.ins.length ≤ 40 ∧ a.T.outs.length ≤ 40 ∧ a.T.nulls.length ≤ 40 ∧ a.T.notes.length ≤ 40) (h0 : a.T.nulls.length = 0) (ha : a.T.anchor ≠ zeroKey) :
    Calls Try.prog 11 #[.agg a.cells.toArray] w fun e w' => e = .returned (encV (encF a.T)) ∧ Below w.heap.size w w' := by
  rw [encF_arg a.T hx h0 ha]
  have HR := Lib.hid (show decide (a.T.anchor = zeroKey) = false by simpa using ha)
  have hb : RowC (w.alloc (.cells a.cells.toArray 29)) w.heap.size 0 a.cells := RowC.of_blk (Blk.new _ _ _)
  have c1 := TxA.c1 hb
  have c2 := TxA.c2 hb
  have c4 := TxA.c4 hb
  have c5 := TxA.c5 hb
  have HK := Lib.hid (TxA.c3 hb)
  have B := Lib.hid (show Below w.heap.size w (w.alloc (.cells a.cells.toArray 29)) from (Below.refl _ _).alloc (Nat.le_refl _) _)
  obtain ⟨x1, x2, x3, x4⟩ := hx
  have hd0 : decide ((40 : Int) < (a.T.ins.length : Int)) = false := by simp; omega
  have hd1 : decide ((40 : Int) < (a.T.outs.length : Int)) = false := by simp; omega
  have hd2 : decide ((40 : Int) < (a.T.nulls.length : Int)) = false := by simp; omega
  have hd3 : decide ((40 : Int) < (a.T.notes.length : Int)) = false := by simp; omega
  have hn0 : ((a.T.nulls.length : Int) == 0) = true := by rw [h0]; rfl
  clear hb ha h0 x1 x2 x3 x4
  unfold encV
  go_enter Try.func11, Try.ntmps11
  go_wp2_with (first
    | ((with_reducible refine at_loadg 36 ?_); refine tyKy.wpList_load (by rfl) (.tmp 36) rfl w.heap.size 3 rfl a.T.anchor HK.out ?_)
    | ((with_reducible refine at_neqlg 37 38 ?_); refine wpList_neq_rowg (by rfl) 24 24 (.tmp 37) (.tmp 38) rfl (encK a.T.anchor).toArray (encK zeroKey).toArray rfl (congrArg Value.agg lit32k) (by kernel_rfl) false (fun V => by rw [eqKy_run, HR.out]) ?_; simp only [Act.put, List.setIfInBounds_toArray, List.set_cons_succ, List.set_cons_zero]))
  go_ret2
  exact ⟨rfl, B.out⟩
set_option maxRecDepth 20000 in
set_option maxHeartbeats 8000000 in
theorem rEnc_ok (a : TxA) (w : World) (h : a.In w w.heap.size) (hok : OkTx a.T) :
    Calls Try.prog 11 #[.agg a.cells.toArray] w fun e w' => e = .returned (encV (txB a.T, 0)) ∧ Below w.heap.size w w' := by
  have ST := Lib.hid (EnS.one h)
  have HOK := Lib.hid hok
  obtain ⟨x1, x2, x3, x4, x5⟩ := hok
  have hd0 : decide ((40 : Int) < (a.T.ins.length : Int)) = false := by simp; omega
  have hd1 : decide ((40 : Int) < (a.T.outs.length : Int)) = false := by simp; omega
  have hd2 : decide ((40 : Int) < (a.T.nulls.length : Int)) = false := by simp; omega
  have hd3 : decide ((40 : Int) < (a.T.notes.length : Int)) = false := by simp; omega
  obtain ⟨r, hr⟩ : ∃ r, decide (a.T.anchor = zeroKey) = r := ⟨_, rfl⟩
  have HR := Lib.hid hr
  have HK := Lib.hid (TxA.c3 (RowC.of_blk ST.out.ka))
  have c1 := TxA.c1 (RowC.of_blk ST.out.ka)
  have c2 := TxA.c2 (RowC.of_blk ST.out.ka)
  have c4 := TxA.c4 (RowC.of_blk ST.out.ka)
  have c5 := TxA.c5 (RowC.of_blk ST.out.ka)
  have L0 := Lib.hid (And.intro x1 (And.intro x2 (And.intro x3 x4)))
  obtain ⟨E, hE⟩ : ∃ E : Nat, a.T.exp.1.toNat = E := ⟨_, rfl⟩
  have hcE : IntKind.u64.wrap a.T.exp.1 = (E : Int) := by have := wf_u32.1 a.T.exp.2; rw [IntKind.wrap_u64]; omega
  have hcI : IntKind.u64.wrap (a.T.ins.length : Int) = (a.T.ins.length : Int) := by rw [IntKind.wrap_u64]; omega
  have hcO : IntKind.u64.wrap (a.T.outs.length : Int) = (a.T.outs.length : Int) := by rw [IntKind.wrap_u64]; omega
  have hcN : IntKind.u64.wrap (a.T.nulls.length : Int) = (a.T.nulls.length : Int) := by rw [IntKind.wrap_u64]; omega
  have hcT : IntKind.u64.wrap (a.T.notes.length : Int) = (a.T.notes.length : Int) := by rw [IntKind.wrap_u64]; omega
  have hcB : IntKind.u64.wrap a.T.bal.1 = (ofI64 a.T.bal : Int) := by rw [IntKind.wrap_u64]; unfold ofI64; omega
  have HE := Lib.hid hE
  have b0 := cmpL_le a.T.ins.length
  have hadd0 : ∀ V, (Op.stringOp .add ⟨(putL E 4).toArray⟩ ⟨(cmpL a.T.ins.length).toArray⟩).run Try.prog V = .ok (.string ⟨(putL E 4 ++ cmpL a.T.ins.length).toArray⟩) V := fun V => run_string_add_lists V _ _ (by rw [putL_len]; omega) (by omega)
  have HP0 := Lib.hid (show (putL E 4 ++ cmpL a.T.ins.length).length ≤ 13 by rw [List.length_append, putL_len]; omega)
  clear hE hr b0
  have hgo : (a.T.nulls.length = 0 → r = true) := fun q => by rw [← HR.out]; simpa using x5 q
  clear x1 x2 x3 x4 x5 h
  unfold encV
  by_cases hz : a.T.nulls.length = 0
  · obtain rfl : r = true := hgo hz
    have hn0 : ((a.T.nulls.length : Int) == 0) = true := by rw [hz]; rfl
    have HZ0 := Lib.hid hz
    clear hgo hz
    go_enter Try.func11, Try.ntmps11
    go_wp2_with (first
        | ((with_reducible refine at_loadg 36 ?_); refine tyKy.wpList_load (by rfl) (.tmp 36) rfl w.heap.size 3 rfl a.T.anchor HK.out ?_)
        | ((with_reducible refine at_neqlg 37 38 ?_); refine wpList_neq_rowg (by rfl) 24 24 (.tmp 37) (.tmp 38) rfl (encK a.T.anchor).toArray (encK zeroKey).toArray rfl (congrArg Value.agg lit32k) (by kernel_rfl) true (fun V => by rw [eqKy_run, HR.out]) ?_; simp only [Act.put, List.setIfInBounds_toArray, List.set_cons_succ, List.set_cons_zero]))
    refine wp_region_from (by kernel_rfl) (by kernel_rfl) ?_
    repeat (first
      | go_big_quiet_skip
      | ((with_reducible refine at_qload 41 ?_); refine wpQuiet_load_one (by rfl) 22 (.tmp 41) rfl ⟨w.heap.size, 0, none⟩ rfl _ Try.isAgg22 (fun W hC => TxA.c0 (RowC.of_blk (below_blk hC.below ST.out.ka ST.out.ka.lt))) ?_; simp only [Act.put, List.setIfInBounds_toArray, List.set_cons_succ, List.set_cons_zero])
      | ((with_reducible refine at_qload 45 ?_); refine wpQuiet_load_one (by rfl) 25 (.tmp 45) rfl ⟨w.heap.size, 1, none⟩ rfl _ Try.isAgg25 (fun W hC => TxA.c1 (RowC.of_blk (below_blk hC.below ST.out.ka ST.out.ka.lt))) ?_; simp only [Act.put, List.setIfInBounds_toArray, List.set_cons_succ, List.set_cons_zero])
      | (go_big_quiet_want; go_big_quiet_op; refine ⟨_, fun _ _ => by with_reducible rfl, ?_⟩; go_big_quiet_on)
      | go_big_quiet_step ((intro hC; first
          | (go_at_call 18; with_reducible exact (rPut4_r E _).mono fun _ _ h => ⟨h.1, hC.call h.2⟩)
          | (go_at_call 19; with_reducible exact (refCompact_any a.T.ins.length _).mono fun _ _ h => ⟨h.1, hC.call h.2⟩)
          | fail)))
    refine wpQuiet_nil ?_
    intro w9 hC
    have ST' := Lib.hid (ST.out.call hC.below)
    clear hC
    clear ST; have ST := ST'; clear ST'
    clear c1 c2 c4 c5
    obtain ⟨P0, hP0⟩ : ∃ P, putL E 4 ++ cmpL a.T.ins.length = P := ⟨_, rfl⟩
    rw [hP0]
    have HP13 := Lib.hid (show P0.length ≤ 13 by rw [← hP0]; exact HP0.out)
    have HQ0 := Lib.hid hP0
    clear hP0 hadd0 HP0
    go_wp2_with fail
    go_loopw [4, 5] (fun s i wr => ∃ (j : Nat) (L : List UInt8), j ≤ a.T.ins.length ∧ i = .int .i64 j ∧ s = .string ⟨L.toArray⟩ ∧ Hid (L = P0 ++ (a.T.ins.take j).flatMap ptB) ∧ Hid (EnS w a wr)) (fun _ i _ => a.T.ins.length - (intOf i).toNat)
    case atStart => exact ⟨0, P0, Nat.zero_le _, rfl, rfl, Lib.hid (by simp), ST⟩
    case round =>
      clear ST
      obtain ⟨wo, rfl⟩ : ∃ q, q = wr := ⟨_, rfl⟩
      obtain ⟨j, L1, hj, rfl, rfl, HL, ST⟩ := hrel
      have HB := Lib.hid (show L1.length ≤ 13 + 36 * j by
        rw [HL.out, List.length_append, flat_len ptB 36 ptB_len, List.length_take]
        have := HP13.out
        have : min j a.T.ins.length ≤ j := Nat.min_le_left _ _
        omega)
      by_cases hlt : j < a.T.ins.length
      · obtain ⟨g1, o1, e1, l1, rc1⟩ := (show RowIn (encKI .u32) 33 wo wo.heap.size a.Ai a.ci a.T.ins from ST.out.ia.ins).at (encKI_len _) hlt
        obtain ⟨x, hx⟩ : ∃ x, a.T.ins[j] = x := ⟨_, rfl⟩
        rw [hx] at rc1
        have HT := Lib.hid (show P0 ++ (a.T.ins.take (j + 1)).flatMap ptB = L1 ++ ptB x by rw [take_flat _ _ _ _ hlt, hx, HL.out])
        have CC := Lib.hid (show wo.cell? ⟨w.heap.size, 1, none⟩ = some (.slice (some ⟨g1, o1, none⟩) a.T.ins.length a.ci) by rw [← e1]; exact TxA.c1 (RowC.of_blk ST.out.ka))
        have RC := Lib.hid rc1
        have hj39 : j ≤ 39 := by have := L0.out; omega
        have HJ := Lib.hid hj39
        clear hx rc1 e1
        have cc := CC.out
        obtain ⟨z, hz4⟩ : ∃ z : Nat, x.2.1.toNat = z := ⟨_, rfl⟩
        have hcx : IntKind.u64.wrap x.2.1 = (z : Int) := by have := wf_u32.1 x.2.2; rw [IntKind.wrap_u64]; omega
        have ha1 : ∀ V, (Op.stringOp .add ⟨(L1).toArray⟩ ⟨(x.1.1).toArray⟩).run Try.prog V = .ok (.string ⟨(L1 ++ x.1.1).toArray⟩) V := fun V => run_string_add_lists V _ _ (by have := HB.out; have := HJ.out; omega) (by rw [x.1.2]; omega)
        have ha2 : ∀ V, (Op.stringOp .add ⟨(L1 ++ x.1.1).toArray⟩ ⟨(putL z 4).toArray⟩).run Try.prog V = .ok (.string ⟨(L1 ++ x.1.1 ++ putL z 4).toArray⟩) V := fun V => run_string_add_lists V _ _ (by have := HB.out; have := HJ.out; rw [List.length_append, x.1.2]; omega) (by rw [putL_len]; omega)
        have HZ := Lib.hid hz4
        clear hz4
        go_wp2_with fail
        refine wp_region_from (by kernel_rfl) (by kernel_rfl) ?_
        repeat (first
          | go_big_quiet_skip
          | ((with_reducible refine at_qload 59 ?_); refine wpQuiet_load_one (by rfl) 25 (.tmp 59) rfl ⟨w.heap.size, 1, none⟩ rfl _ Try.isAgg25 (fun W hC => (below_cell hC.below CC.out ST.out.ka.lt)) ?_; simp only [Act.put, List.setIfInBounds_toArray, List.set_cons_succ, List.set_cons_zero])
          | ((with_reducible refine at_qload 67 ?_); refine wpQuiet_load_one (by rfl) 25 (.tmp 67) rfl ⟨w.heap.size, 1, none⟩ rfl _ Try.isAgg25 (fun W hC => (below_cell hC.below CC.out ST.out.ka.lt)) ?_; simp only [Act.put, List.setIfInBounds_toArray, List.set_cons_succ, List.set_cons_zero])
          | ((with_reducible refine at_qload 63 ?_); refine tyKy.wpQuiet_load (by rfl) (.tmp 63) rfl g1 (o1 + j * 33) rfl x.1 (fun W hC => (RC.out.below hC.below l1).ki_key) ?_; simp only [Act.put, List.setIfInBounds_toArray, List.set_cons_succ, List.set_cons_zero])
          | ((with_reducible refine at_qload 71 ?_); refine wpQuiet_load_one (by rfl) 22 (.tmp 71) rfl ⟨g1, o1 + j * 33 + 32, none⟩ rfl _ Try.isAgg22 (fun W hC => (RC.out.below hC.below l1).ki_int) ?_; simp only [Act.put, List.setIfInBounds_toArray, List.set_cons_succ, List.set_cons_zero])
          | (go_big_quiet_want; go_big_quiet_op; refine ⟨_, fun _ _ => by with_reducible rfl, ?_⟩; go_big_quiet_on)
          | go_big_quiet_step ((intro hC; first
              | (go_at_call 20; with_reducible exact (rBytes_r x.1 _).mono fun _ _ h => ⟨h.1, hC.call h.2⟩)
              | (go_at_call 18; with_reducible exact (rPut4_r z _).mono fun _ _ h => ⟨h.1, hC.call h.2⟩)
              | fail)))
        refine wpQuiet_nil ?_
        intro w9 hC
        have ST' := Lib.hid (ST.out.call hC.below)
        clear hC
        clear ST; have ST := ST'; clear ST'
        clear ha1 ha2 hcx cc
        go_wp2_with fail
        go_roundw
        case rel => exact ⟨j + 1, (L1 ++ (x.1.1 ++ putL z 4)), by omega, by go_num, rfl, Lib.hid (HT.out.trans (by unfold ptB; rw [HZ.out])).symm, ST⟩
        case measure => simp [intOf]; omega
      · have hje : j = a.T.ins.length := by omega
        have hd : decide ((j : Int) < (a.T.ins.length : Int)) = false := by simp; omega
        have HW1 := Lib.hid (show L1 = P0 ++ a.T.ins.flatMap ptB by rw [HL.out, hje, List.take_length])
        have cc := TxA.c1 (RowC.of_blk ST.out.ka)
        have HBL := Lib.hid (show L1.length ≤ 1453 by have := HB.out; have := L0.out; omega)
        clear HL HB hje hj
        have cc2 := TxA.c2 (RowC.of_blk ST.out.ka)
        obtain ⟨P2, hP2⟩ : ∃ P, L1 ++ cmpL a.T.outs.length = P := ⟨_, rfl⟩
        have hac : ∀ V, (Op.stringOp .add ⟨(L1).toArray⟩ ⟨(cmpL a.T.outs.length).toArray⟩).run Try.prog V = .ok (.string ⟨P2.toArray⟩) V := fun V => hP2 ▸ run_string_add_lists V _ _ (by have := HBL.out; omega) (by have := cmpL_le a.T.outs.length; omega)
        have HP1462 := Lib.hid (show P2.length ≤ 1462 by rw [← hP2, List.length_append]; have := HBL.out; have := cmpL_le a.T.outs.length; omega)
        have HQ2 := Lib.hid hP2
        clear hP2
        go_wp2_with fail
        refine (refCompact_any a.T.outs.length _).mono ?_
        rintro e w9 ⟨rfl, hb⟩
        have ST' := Lib.hid (ST.out.call hb)
        clear hb
        clear ST; have ST := ST'; clear ST'
        go_wp2_with fail
        go_loopw [4, 6] (fun s i wr => ∃ (j : Nat) (L : List UInt8), j ≤ a.T.outs.length ∧ i = .int .i64 j ∧ s = .string ⟨L.toArray⟩ ∧ Hid (L = P2 ++ (a.T.outs.take j).flatMap outB) ∧ Hid (EnS w a wr)) (fun _ i _ => a.T.outs.length - (intOf i).toNat)
        case atStart => exact ⟨0, P2, Nat.zero_le _, rfl, rfl, Lib.hid (by simp), ST⟩
        case round =>
          clear ST
          obtain ⟨wo, rfl⟩ : ∃ q, q = wr := ⟨_, rfl⟩
          obtain ⟨j, L2, hj, rfl, rfl, HL, ST⟩ := hrel
          have HB := Lib.hid (show L2.length ≤ 1462 + 40 * j by
            rw [HL.out, List.length_append, flat_len outB 40 outB_len, List.length_take]
            have := HP1462.out
            have : min j a.T.outs.length ≤ j := Nat.min_le_left _ _
            omega)
          by_cases hlt : j < a.T.outs.length
          · obtain ⟨g1, o1, e1, l1, rc1⟩ := (show RowIn (encIK .i64) 33 wo wo.heap.size a.Ao a.co a.T.outs from ST.out.ia.outs).at (encIK_len _) hlt
            obtain ⟨x, hx⟩ : ∃ x, a.T.outs[j] = x := ⟨_, rfl⟩
            rw [hx] at rc1
            have HT := Lib.hid (show P2 ++ (a.T.outs.take (j + 1)).flatMap outB = L2 ++ outB x by rw [take_flat _ _ _ _ hlt, hx, HL.out])
            have CC := Lib.hid (show wo.cell? ⟨w.heap.size, 2, none⟩ = some (.slice (some ⟨g1, o1, none⟩) a.T.outs.length a.co) by rw [← e1]; exact TxA.c2 (RowC.of_blk ST.out.ka))
            have RC := Lib.hid rc1
            have hj39 : j ≤ 39 := by have := L0.out; omega
            have HJ := Lib.hid hj39
            clear hx rc1 e1
            have cc := CC.out
            obtain ⟨z, hz4⟩ : ∃ z : Nat, ofI64 x.1 = z := ⟨_, rfl⟩
            have hcx : IntKind.u64.wrap x.1.1 = (z : Int) := by rw [IntKind.wrap_u64, ← hz4]; unfold ofI64; omega
            have ha1 : ∀ V, (Op.stringOp .add ⟨(L2).toArray⟩ ⟨(putL z 8).toArray⟩).run Try.prog V = .ok (.string ⟨(L2 ++ putL z 8).toArray⟩) V := fun V => run_string_add_lists V _ _ (by have := HB.out; have := HJ.out; omega) (by rw [putL_len]; omega)
            have ha2 : ∀ V, (Op.stringOp .add ⟨(L2 ++ putL z 8).toArray⟩ ⟨(x.2.1).toArray⟩).run Try.prog V = .ok (.string ⟨(L2 ++ putL z 8 ++ x.2.1).toArray⟩) V := fun V => run_string_add_lists V _ _ (by have := HB.out; have := HJ.out; rw [List.length_append, putL_len]; omega) (by rw [x.2.2]; omega)
            have HZ := Lib.hid hz4
            clear hz4
            go_wp2_with fail
            refine wp_region_from (by kernel_rfl) (by kernel_rfl) ?_
            repeat (first
              | go_big_quiet_skip
              | ((with_reducible refine at_qload 91 ?_); refine wpQuiet_load_one (by rfl) 26 (.tmp 91) rfl ⟨w.heap.size, 2, none⟩ rfl _ Try.isAgg26 (fun W hC => (below_cell hC.below CC.out ST.out.ka.lt)) ?_; simp only [Act.put, List.setIfInBounds_toArray, List.set_cons_succ, List.set_cons_zero])
              | ((with_reducible refine at_qload 100 ?_); refine wpQuiet_load_one (by rfl) 26 (.tmp 100) rfl ⟨w.heap.size, 2, none⟩ rfl _ Try.isAgg26 (fun W hC => (below_cell hC.below CC.out ST.out.ka.lt)) ?_; simp only [Act.put, List.setIfInBounds_toArray, List.set_cons_succ, List.set_cons_zero])
              | ((with_reducible refine at_qload 95 ?_); refine wpQuiet_load_one (by rfl) 2 (.tmp 95) rfl ⟨g1, o1 + j * 33, none⟩ rfl _ Try.isAgg2 (fun W hC => (RC.out.below hC.below l1).ik_int) ?_; simp only [Act.put, List.setIfInBounds_toArray, List.set_cons_succ, List.set_cons_zero])
              | ((with_reducible refine at_qload 104 ?_); refine tyKy.wpQuiet_load (by rfl) (.tmp 104) rfl g1 (o1 + j * 33 + 1) rfl x.2 (fun W hC => (RC.out.below hC.below l1).ik_key) ?_; simp only [Act.put, List.setIfInBounds_toArray, List.set_cons_succ, List.set_cons_zero])
              | (go_big_quiet_want; go_big_quiet_op; refine ⟨_, fun _ _ => by with_reducible rfl, ?_⟩; go_big_quiet_on)
              | go_big_quiet_step ((intro hC; first
                  | (go_at_call 20; with_reducible exact (rBytes_r x.2 _).mono fun _ _ h => ⟨h.1, hC.call h.2⟩)
                  | (go_at_call 18; with_reducible exact (rPut8_r z _).mono fun _ _ h => ⟨h.1, hC.call h.2⟩)
                  | fail)))
            refine wpQuiet_nil ?_
            intro w9 hC
            have ST' := Lib.hid (ST.out.call hC.below)
            clear hC
            clear ST; have ST := ST'; clear ST'
            clear ha1 ha2 hcx cc
            go_wp2_with fail
            go_roundw
            case rel => exact ⟨j + 1, (L2 ++ (putL z 8 ++ x.2.1)), by omega, by go_num, rfl, Lib.hid (HT.out.trans (by unfold outB; rw [HZ.out])).symm, ST⟩
            case measure => simp [intOf]; omega
          · have hje : j = a.T.outs.length := by omega
            have hd : decide ((j : Int) < (a.T.outs.length : Int)) = false := by simp; omega
            have HW2 := Lib.hid (show L2 = P2 ++ a.T.outs.flatMap outB by rw [HL.out, hje, List.take_length])
            have cc := TxA.c2 (RowC.of_blk ST.out.ka)
            have HBL := Lib.hid (show L2.length ≤ 3062 by have := HB.out; have := L0.out; omega)
            clear HL HB hje hj
            have cc2 := TxA.c4 (RowC.of_blk ST.out.ka)
            obtain ⟨P4, hP4⟩ : ∃ P, L2 ++ cmpL a.T.nulls.length = P := ⟨_, rfl⟩
            have hac : ∀ V, (Op.stringOp .add ⟨(L2).toArray⟩ ⟨(cmpL a.T.nulls.length).toArray⟩).run Try.prog V = .ok (.string ⟨P4.toArray⟩) V := fun V => hP4 ▸ run_string_add_lists V _ _ (by have := HBL.out; omega) (by have := cmpL_le a.T.nulls.length; omega)
            have HP3071 := Lib.hid (show P4.length ≤ 3071 by rw [← hP4, List.length_append]; have := HBL.out; have := cmpL_le a.T.nulls.length; omega)
            have HQ4 := Lib.hid hP4
            clear hP4
            go_wp2_with fail
            refine (refCompact_any a.T.nulls.length _).mono ?_
            rintro e w9 ⟨rfl, hb⟩
            have ST' := Lib.hid (ST.out.call hb)
            clear hb
            clear ST; have ST := ST'; clear ST'
            have cc4 := TxA.c4 (RowC.of_blk ST.out.ka)
            have hp0 : decide ((0 : Int) < (a.T.nulls.length : Int)) = false := by rw [HZ0.out]; rfl
            have hp1 : decide (0 < a.T.nulls.length) = false := by rw [HZ0.out]; rfl
            have HP3103 := Lib.hid (show P4.length ≤ 3103 by have := HP3071.out; omega)
            go_wp2_with fail
            go_loopw [4, 7] (fun s i wr => ∃ (j : Nat) (L : List UInt8), j ≤ a.T.nulls.length ∧ i = .int .i64 j ∧ s = .string ⟨L.toArray⟩ ∧ Hid (L = P4 ++ (a.T.nulls.take j).flatMap keyB) ∧ Hid (EnS w a wr)) (fun _ i _ => a.T.nulls.length - (intOf i).toNat)
            case atStart => exact ⟨0, P4, Nat.zero_le _, rfl, rfl, Lib.hid (by simp), ST⟩
            case round =>
              clear ST
              obtain ⟨wo, rfl⟩ : ∃ q, q = wr := ⟨_, rfl⟩
              obtain ⟨j, L4, hj, rfl, rfl, HL, ST⟩ := hrel
              have HB := Lib.hid (show L4.length ≤ 3103 + 32 * j by
                rw [HL.out, List.length_append, flat_len keyB 32 (fun k => k.2), List.length_take]
                have := HP3103.out
                have : min j a.T.nulls.length ≤ j := Nat.min_le_left _ _
                omega)
              by_cases hlt : j < a.T.nulls.length
              · obtain ⟨g1, o1, e1, l1, rc1⟩ := (show RowIn encK 32 wo wo.heap.size a.An a.cn a.T.nulls from ST.out.ia.nulls).at (encK_len) hlt
                obtain ⟨x, hx⟩ : ∃ x, a.T.nulls[j] = x := ⟨_, rfl⟩
                rw [hx] at rc1
                have HT := Lib.hid (show P4 ++ (a.T.nulls.take (j + 1)).flatMap keyB = L4 ++ keyB x by rw [take_flat _ _ _ _ hlt, hx, HL.out])
                have CC := Lib.hid (show wo.cell? ⟨w.heap.size, 35, none⟩ = some (.slice (some ⟨g1, o1, none⟩) a.T.nulls.length a.cn) by rw [← e1]; exact TxA.c4 (RowC.of_blk ST.out.ka))
                have RC := Lib.hid rc1
                have hj39 : j ≤ 39 := by have := L0.out; omega
                have HJ := Lib.hid hj39
                clear hx rc1 e1
                have cc := CC.out
                have ha1 : ∀ V, (Op.stringOp .add ⟨(L4).toArray⟩ ⟨(x.1).toArray⟩).run Try.prog V = .ok (.string ⟨(L4 ++ x.1).toArray⟩) V := fun V => run_string_add_lists V _ _ (by have := HB.out; have := HJ.out; omega) (by rw [x.2]; omega)
                go_wp2_with ((with_reducible refine at_load 135 ?_); refine tyKy.wpList_load rfl (.tmp 135) rfl g1 (o1 + j * 32) rfl x RC.out ?_)
                refine (rBytes_r x _).mono ?_
                rintro e w9 ⟨rfl, hb⟩
                have ST' := Lib.hid (ST.out.call hb)
                clear hb
                clear ST; have ST := ST'; clear ST'
                clear cc
                go_wp2_with fail
                go_roundw
                case rel => exact ⟨j + 1, (L4 ++ x.1), by omega, by go_num, rfl, Lib.hid (HT.out.trans (rfl)).symm, ST⟩
                case measure => simp [intOf]; omega
              · have hje : j = a.T.nulls.length := by omega
                have hd : decide ((j : Int) < (a.T.nulls.length : Int)) = false := by simp; omega
                have HW4 := Lib.hid (show L4 = P4 ++ a.T.nulls.flatMap keyB by rw [HL.out, hje, List.take_length])
                have cc := TxA.c4 (RowC.of_blk ST.out.ka)
                have HBL := Lib.hid (show L4.length ≤ 4383 by have := HB.out; have := L0.out; omega)
                clear HL HB hje hj
                have cc2 := TxA.c5 (RowC.of_blk ST.out.ka)
                obtain ⟨P7, hP7⟩ : ∃ P, L4 ++ cmpL a.T.notes.length = P := ⟨_, rfl⟩
                have hac : ∀ V, (Op.stringOp .add ⟨(L4).toArray⟩ ⟨(cmpL a.T.notes.length).toArray⟩).run Try.prog V = .ok (.string ⟨P7.toArray⟩) V := fun V => hP7 ▸ run_string_add_lists V _ _ (by have := HBL.out; omega) (by have := cmpL_le a.T.notes.length; omega)
                have HP4392 := Lib.hid (show P7.length ≤ 4392 by rw [← hP7, List.length_append]; have := HBL.out; have := cmpL_le a.T.notes.length; omega)
                have HQ5 := Lib.hid hP7
                clear hP7
                go_wp2_with fail
                refine (refCompact_any a.T.notes.length _).mono ?_
                rintro e w9 ⟨rfl, hb⟩
                have ST' := Lib.hid (ST.out.call hb)
                clear hb
                clear ST; have ST := ST'; clear ST'
                go_wp2_with fail
                go_loopw [4, 8] (fun s i wr => ∃ (j : Nat) (L : List UInt8), j ≤ a.T.notes.length ∧ i = .int .i64 j ∧ s = .string ⟨L.toArray⟩ ∧ Hid (L = P7 ++ (a.T.notes.take j).flatMap keyB) ∧ Hid (EnS w a wr)) (fun _ i _ => a.T.notes.length - (intOf i).toNat)
                case atStart => exact ⟨0, P7, Nat.zero_le _, rfl, rfl, Lib.hid (by simp), ST⟩
                case round =>
                  clear ST
                  obtain ⟨wo, rfl⟩ : ∃ q, q = wr := ⟨_, rfl⟩
                  obtain ⟨j, L5, hj, rfl, rfl, HL, ST⟩ := hrel
                  have HB := Lib.hid (show L5.length ≤ 4392 + 32 * j by
                    rw [HL.out, List.length_append, flat_len keyB 32 (fun k => k.2), List.length_take]
                    have := HP4392.out
                    have : min j a.T.notes.length ≤ j := Nat.min_le_left _ _
                    omega)
                  by_cases hlt : j < a.T.notes.length
                  · obtain ⟨g1, o1, e1, l1, rc1⟩ := (show RowIn encK 32 wo wo.heap.size a.At a.ct a.T.notes from ST.out.ia.notes).at (encK_len) hlt
                    obtain ⟨x, hx⟩ : ∃ x, a.T.notes[j] = x := ⟨_, rfl⟩
                    rw [hx] at rc1
                    have HT := Lib.hid (show P7 ++ (a.T.notes.take (j + 1)).flatMap keyB = L5 ++ keyB x by rw [take_flat _ _ _ _ hlt, hx, HL.out])
                    have CC := Lib.hid (show wo.cell? ⟨w.heap.size, 36, none⟩ = some (.slice (some ⟨g1, o1, none⟩) a.T.notes.length a.ct) by rw [← e1]; exact TxA.c5 (RowC.of_blk ST.out.ka))
                    have RC := Lib.hid rc1
                    have hj39 : j ≤ 39 := by have := L0.out; omega
                    have HJ := Lib.hid hj39
                    clear hx rc1 e1
                    have cc := CC.out
                    have ha1 : ∀ V, (Op.stringOp .add ⟨(L5).toArray⟩ ⟨(x.1).toArray⟩).run Try.prog V = .ok (.string ⟨(L5 ++ x.1).toArray⟩) V := fun V => run_string_add_lists V _ _ (by have := HB.out; have := HJ.out; omega) (by rw [x.2]; omega)
                    go_wp2_with ((with_reducible refine at_load 157 ?_); refine tyKy.wpList_load rfl (.tmp 157) rfl g1 (o1 + j * 32) rfl x RC.out ?_)
                    refine (rBytes_r x _).mono ?_
                    rintro e w9 ⟨rfl, hb⟩
                    have ST' := Lib.hid (ST.out.call hb)
                    clear hb
                    clear ST; have ST := ST'; clear ST'
                    clear cc
                    go_wp2_with fail
                    go_roundw
                    case rel => exact ⟨j + 1, (L5 ++ x.1), by omega, by go_num, rfl, Lib.hid (HT.out.trans (rfl)).symm, ST⟩
                    case measure => simp [intOf]; omega
                  · have hje : j = a.T.notes.length := by omega
                    have hd : decide ((j : Int) < (a.T.notes.length : Int)) = false := by simp; omega
                    have HW5 := Lib.hid (show L5 = P7 ++ a.T.notes.flatMap keyB by rw [HL.out, hje, List.take_length])
                    have cc := TxA.c5 (RowC.of_blk ST.out.ka)
                    have HBL := Lib.hid (show L5.length ≤ 5672 by have := HB.out; have := L0.out; omega)
                    clear HL HB hje hj
                    have cc6 := TxA.c6 (RowC.of_blk ST.out.ka)
                    obtain ⟨P9, hP9⟩ : ∃ P, L5 ++ putL (ofI64 a.T.bal) 8 = P := ⟨_, rfl⟩
                    have haz : ∀ V, (Op.stringOp .add ⟨(L5).toArray⟩ ⟨(putL (ofI64 a.T.bal) 8).toArray⟩).run Try.prog V = .ok (.string ⟨P9.toArray⟩) V := fun V => hP9 ▸ run_string_add_lists V _ _ (by have := HBL.out; omega) (by rw [putL_len]; omega)
                    have HQ9 := Lib.hid hP9
                    clear hP9
                    go_wp2_with fail
                    refine (rPut8_r (ofI64 a.T.bal) _).mono ?_
                    rintro e w9 ⟨rfl, hb⟩
                    have ST' := Lib.hid (ST.out.call hb)
                    clear hb
                    clear ST; have ST := ST'; clear ST'
                    go_wp2
                    go_ret2
                    refine ⟨?_, ST.out.below⟩
                    rw [show P9 = txB a.T from by
                      rw [← HQ9.out, HW5.out, ← HQ5.out, HW4.out, ← HQ4.out, HW2.out, ← HQ2.out, HW1.out, ← HQ0.out, ← HE.out]
                      have hk : ∀ l : List K32, l.flatMap (fun k => k.1) = l.flatMap keyB := fun _ => rfl
                      unfold txB manyB nullB
                      simp only [hk, HZ0.out, if_true, List.append_assoc, List.nil_append]]
                    rfl
  · have hn0 : ((a.T.nulls.length : Int) == 0) = false := beq_eq_false_iff_ne.mpr (by omega)
    have HZ0 := Lib.hid hz
    clear hgo hz
    go_enter Try.func11, Try.ntmps11
    go_wp2_with fail
    refine wp_region_from (by kernel_rfl) (by kernel_rfl) ?_
    repeat (first
      | go_big_quiet_skip
      | ((with_reducible refine at_qload 41 ?_); refine wpQuiet_load_one (by rfl) 22 (.tmp 41) rfl ⟨w.heap.size, 0, none⟩ rfl _ Try.isAgg22 (fun W hC => TxA.c0 (RowC.of_blk (below_blk hC.below ST.out.ka ST.out.ka.lt))) ?_; simp only [Act.put, List.setIfInBounds_toArray, List.set_cons_succ, List.set_cons_zero])
      | ((with_reducible refine at_qload 45 ?_); refine wpQuiet_load_one (by rfl) 25 (.tmp 45) rfl ⟨w.heap.size, 1, none⟩ rfl _ Try.isAgg25 (fun W hC => TxA.c1 (RowC.of_blk (below_blk hC.below ST.out.ka ST.out.ka.lt))) ?_; simp only [Act.put, List.setIfInBounds_toArray, List.set_cons_succ, List.set_cons_zero])
      | (go_big_quiet_want; go_big_quiet_op; refine ⟨_, fun _ _ => by with_reducible rfl, ?_⟩; go_big_quiet_on)
      | go_big_quiet_step ((intro hC; first
          | (go_at_call 18; with_reducible exact (rPut4_r E _).mono fun _ _ h => ⟨h.1, hC.call h.2⟩)
          | (go_at_call 19; with_reducible exact (refCompact_any a.T.ins.length _).mono fun _ _ h => ⟨h.1, hC.call h.2⟩)
          | fail)))
    refine wpQuiet_nil ?_
    intro w9 hC
    have ST' := Lib.hid (ST.out.call hC.below)
    clear hC
    clear ST; have ST := ST'; clear ST'
    clear c1 c2 c4 c5
    obtain ⟨P0, hP0⟩ : ∃ P, putL E 4 ++ cmpL a.T.ins.length = P := ⟨_, rfl⟩
    rw [hP0]
    have HP13 := Lib.hid (show P0.length ≤ 13 by rw [← hP0]; exact HP0.out)
    have HQ0 := Lib.hid hP0
    clear hP0 hadd0 HP0
    go_wp2_with fail
    go_loopw [4, 5] (fun s i wr => ∃ (j : Nat) (L : List UInt8), j ≤ a.T.ins.length ∧ i = .int .i64 j ∧ s = .string ⟨L.toArray⟩ ∧ Hid (L = P0 ++ (a.T.ins.take j).flatMap ptB) ∧ Hid (EnS w a wr)) (fun _ i _ => a.T.ins.length - (intOf i).toNat)
    case atStart => exact ⟨0, P0, Nat.zero_le _, rfl, rfl, Lib.hid (by simp), ST⟩
    case round =>
      clear ST
      obtain ⟨wo, rfl⟩ : ∃ q, q = wr := ⟨_, rfl⟩
      obtain ⟨j, L1, hj, rfl, rfl, HL, ST⟩ := hrel
      have HB := Lib.hid (show L1.length ≤ 13 + 36 * j by
        rw [HL.out, List.length_append, flat_len ptB 36 ptB_len, List.length_take]
        have := HP13.out
        have : min j a.T.ins.length ≤ j := Nat.min_le_left _ _
        omega)
      by_cases hlt : j < a.T.ins.length
      · obtain ⟨g1, o1, e1, l1, rc1⟩ := (show RowIn (encKI .u32) 33 wo wo.heap.size a.Ai a.ci a.T.ins from ST.out.ia.ins).at (encKI_len _) hlt
        obtain ⟨x, hx⟩ : ∃ x, a.T.ins[j] = x := ⟨_, rfl⟩
        rw [hx] at rc1
        have HT := Lib.hid (show P0 ++ (a.T.ins.take (j + 1)).flatMap ptB = L1 ++ ptB x by rw [take_flat _ _ _ _ hlt, hx, HL.out])
        have CC := Lib.hid (show wo.cell? ⟨w.heap.size, 1, none⟩ = some (.slice (some ⟨g1, o1, none⟩) a.T.ins.length a.ci) by rw [← e1]; exact TxA.c1 (RowC.of_blk ST.out.ka))
        have RC := Lib.hid rc1
        have hj39 : j ≤ 39 := by have := L0.out; omega
        have HJ := Lib.hid hj39
        clear hx rc1 e1
        have cc := CC.out
        obtain ⟨z, hz4⟩ : ∃ z : Nat, x.2.1.toNat = z := ⟨_, rfl⟩
        have hcx : IntKind.u64.wrap x.2.1 = (z : Int) := by have := wf_u32.1 x.2.2; rw [IntKind.wrap_u64]; omega
        have ha1 : ∀ V, (Op.stringOp .add ⟨(L1).toArray⟩ ⟨(x.1.1).toArray⟩).run Try.prog V = .ok (.string ⟨(L1 ++ x.1.1).toArray⟩) V := fun V => run_string_add_lists V _ _ (by have := HB.out; have := HJ.out; omega) (by rw [x.1.2]; omega)
        have ha2 : ∀ V, (Op.stringOp .add ⟨(L1 ++ x.1.1).toArray⟩ ⟨(putL z 4).toArray⟩).run Try.prog V = .ok (.string ⟨(L1 ++ x.1.1 ++ putL z 4).toArray⟩) V := fun V => run_string_add_lists V _ _ (by have := HB.out; have := HJ.out; rw [List.length_append, x.1.2]; omega) (by rw [putL_len]; omega)
        have HZ := Lib.hid hz4
        clear hz4
        go_wp2_with fail
        refine wp_region_from (by kernel_rfl) (by kernel_rfl) ?_
        repeat (first
          | go_big_quiet_skip
          | ((with_reducible refine at_qload 59 ?_); refine wpQuiet_load_one (by rfl) 25 (.tmp 59) rfl ⟨w.heap.size, 1, none⟩ rfl _ Try.isAgg25 (fun W hC => (below_cell hC.below CC.out ST.out.ka.lt)) ?_; simp only [Act.put, List.setIfInBounds_toArray, List.set_cons_succ, List.set_cons_zero])
          | ((with_reducible refine at_qload 67 ?_); refine wpQuiet_load_one (by rfl) 25 (.tmp 67) rfl ⟨w.heap.size, 1, none⟩ rfl _ Try.isAgg25 (fun W hC => (below_cell hC.below CC.out ST.out.ka.lt)) ?_; simp only [Act.put, List.setIfInBounds_toArray, List.set_cons_succ, List.set_cons_zero])
          | ((with_reducible refine at_qload 63 ?_); refine tyKy.wpQuiet_load (by rfl) (.tmp 63) rfl g1 (o1 + j * 33) rfl x.1 (fun W hC => (RC.out.below hC.below l1).ki_key) ?_; simp only [Act.put, List.setIfInBounds_toArray, List.set_cons_succ, List.set_cons_zero])
          | ((with_reducible refine at_qload 71 ?_); refine wpQuiet_load_one (by rfl) 22 (.tmp 71) rfl ⟨g1, o1 + j * 33 + 32, none⟩ rfl _ Try.isAgg22 (fun W hC => (RC.out.below hC.below l1).ki_int) ?_; simp only [Act.put, List.setIfInBounds_toArray, List.set_cons_succ, List.set_cons_zero])
          | (go_big_quiet_want; go_big_quiet_op; refine ⟨_, fun _ _ => by with_reducible rfl, ?_⟩; go_big_quiet_on)
          | go_big_quiet_step ((intro hC; first
              | (go_at_call 20; with_reducible exact (rBytes_r x.1 _).mono fun _ _ h => ⟨h.1, hC.call h.2⟩)
              | (go_at_call 18; with_reducible exact (rPut4_r z _).mono fun _ _ h => ⟨h.1, hC.call h.2⟩)
              | fail)))
        refine wpQuiet_nil ?_
        intro w9 hC
        have ST' := Lib.hid (ST.out.call hC.below)
        clear hC
        clear ST; have ST := ST'; clear ST'
        clear ha1 ha2 hcx cc
        go_wp2_with fail
        go_roundw
        case rel => exact ⟨j + 1, (L1 ++ (x.1.1 ++ putL z 4)), by omega, by go_num, rfl, Lib.hid (HT.out.trans (by unfold ptB; rw [HZ.out])).symm, ST⟩
        case measure => simp [intOf]; omega
      · have hje : j = a.T.ins.length := by omega
        have hd : decide ((j : Int) < (a.T.ins.length : Int)) = false := by simp; omega
        have HW1 := Lib.hid (show L1 = P0 ++ a.T.ins.flatMap ptB by rw [HL.out, hje, List.take_length])
        have cc := TxA.c1 (RowC.of_blk ST.out.ka)
        have HBL := Lib.hid (show L1.length ≤ 1453 by have := HB.out; have := L0.out; omega)
        clear HL HB hje hj
        have cc2 := TxA.c2 (RowC.of_blk ST.out.ka)
        obtain ⟨P2, hP2⟩ : ∃ P, L1 ++ cmpL a.T.outs.length = P := ⟨_, rfl⟩
        have hac : ∀ V, (Op.stringOp .add ⟨(L1).toArray⟩ ⟨(cmpL a.T.outs.length).toArray⟩).run Try.prog V = .ok (.string ⟨P2.toArray⟩) V := fun V => hP2 ▸ run_string_add_lists V _ _ (by have := HBL.out; omega) (by have := cmpL_le a.T.outs.length; omega)
        have HP1462 := Lib.hid (show P2.length ≤ 1462 by rw [← hP2, List.length_append]; have := HBL.out; have := cmpL_le a.T.outs.length; omega)
        have HQ2 := Lib.hid hP2
        clear hP2
        go_wp2_with fail
        refine (refCompact_any a.T.outs.length _).mono ?_
        rintro e w9 ⟨rfl, hb⟩
        have ST' := Lib.hid (ST.out.call hb)
        clear hb
        clear ST; have ST := ST'; clear ST'
        go_wp2_with fail
        go_loopw [4, 6] (fun s i wr => ∃ (j : Nat) (L : List UInt8), j ≤ a.T.outs.length ∧ i = .int .i64 j ∧ s = .string ⟨L.toArray⟩ ∧ Hid (L = P2 ++ (a.T.outs.take j).flatMap outB) ∧ Hid (EnS w a wr)) (fun _ i _ => a.T.outs.length - (intOf i).toNat)
        case atStart => exact ⟨0, P2, Nat.zero_le _, rfl, rfl, Lib.hid (by simp), ST⟩
        case round =>
          clear ST
          obtain ⟨wo, rfl⟩ : ∃ q, q = wr := ⟨_, rfl⟩
          obtain ⟨j, L2, hj, rfl, rfl, HL, ST⟩ := hrel
          have HB := Lib.hid (show L2.length ≤ 1462 + 40 * j by
            rw [HL.out, List.length_append, flat_len outB 40 outB_len, List.length_take]
            have := HP1462.out
            have : min j a.T.outs.length ≤ j := Nat.min_le_left _ _
            omega)
          by_cases hlt : j < a.T.outs.length
          · obtain ⟨g1, o1, e1, l1, rc1⟩ := (show RowIn (encIK .i64) 33 wo wo.heap.size a.Ao a.co a.T.outs from ST.out.ia.outs).at (encIK_len _) hlt
            obtain ⟨x, hx⟩ : ∃ x, a.T.outs[j] = x := ⟨_, rfl⟩
            rw [hx] at rc1
            have HT := Lib.hid (show P2 ++ (a.T.outs.take (j + 1)).flatMap outB = L2 ++ outB x by rw [take_flat _ _ _ _ hlt, hx, HL.out])
            have CC := Lib.hid (show wo.cell? ⟨w.heap.size, 2, none⟩ = some (.slice (some ⟨g1, o1, none⟩) a.T.outs.length a.co) by rw [← e1]; exact TxA.c2 (RowC.of_blk ST.out.ka))
            have RC := Lib.hid rc1
            have hj39 : j ≤ 39 := by have := L0.out; omega
            have HJ := Lib.hid hj39
            clear hx rc1 e1
            have cc := CC.out
            obtain ⟨z, hz4⟩ : ∃ z : Nat, ofI64 x.1 = z := ⟨_, rfl⟩
            have hcx : IntKind.u64.wrap x.1.1 = (z : Int) := by rw [IntKind.wrap_u64, ← hz4]; unfold ofI64; omega
            have ha1 : ∀ V, (Op.stringOp .add ⟨(L2).toArray⟩ ⟨(putL z 8).toArray⟩).run Try.prog V = .ok (.string ⟨(L2 ++ putL z 8).toArray⟩) V := fun V => run_string_add_lists V _ _ (by have := HB.out; have := HJ.out; omega) (by rw [putL_len]; omega)
            have ha2 : ∀ V, (Op.stringOp .add ⟨(L2 ++ putL z 8).toArray⟩ ⟨(x.2.1).toArray⟩).run Try.prog V = .ok (.string ⟨(L2 ++ putL z 8 ++ x.2.1).toArray⟩) V := fun V => run_string_add_lists V _ _ (by have := HB.out; have := HJ.out; rw [List.length_append, putL_len]; omega) (by rw [x.2.2]; omega)
            have HZ := Lib.hid hz4
            clear hz4
            go_wp2_with fail
            refine wp_region_from (by kernel_rfl) (by kernel_rfl) ?_
            repeat (first
              | go_big_quiet_skip
              | ((with_reducible refine at_qload 91 ?_); refine wpQuiet_load_one (by rfl) 26 (.tmp 91) rfl ⟨w.heap.size, 2, none⟩ rfl _ Try.isAgg26 (fun W hC => (below_cell hC.below CC.out ST.out.ka.lt)) ?_; simp only [Act.put, List.setIfInBounds_toArray, List.set_cons_succ, List.set_cons_zero])
              | ((with_reducible refine at_qload 100 ?_); refine wpQuiet_load_one (by rfl) 26 (.tmp 100) rfl ⟨w.heap.size, 2, none⟩ rfl _ Try.isAgg26 (fun W hC => (below_cell hC.below CC.out ST.out.ka.lt)) ?_; simp only [Act.put, List.setIfInBounds_toArray, List.set_cons_succ, List.set_cons_zero])
              | ((with_reducible refine at_qload 95 ?_); refine wpQuiet_load_one (by rfl) 2 (.tmp 95) rfl ⟨g1, o1 + j * 33, none⟩ rfl _ Try.isAgg2 (fun W hC => (RC.out.below hC.below l1).ik_int) ?_; simp only [Act.put, List.setIfInBounds_toArray, List.set_cons_succ, List.set_cons_zero])
              | ((with_reducible refine at_qload 104 ?_); refine tyKy.wpQuiet_load (by rfl) (.tmp 104) rfl g1 (o1 + j * 33 + 1) rfl x.2 (fun W hC => (RC.out.below hC.below l1).ik_key) ?_; simp only [Act.put, List.setIfInBounds_toArray, List.set_cons_succ, List.set_cons_zero])
              | (go_big_quiet_want; go_big_quiet_op; refine ⟨_, fun _ _ => by with_reducible rfl, ?_⟩; go_big_quiet_on)
              | go_big_quiet_step ((intro hC; first
                  | (go_at_call 20; with_reducible exact (rBytes_r x.2 _).mono fun _ _ h => ⟨h.1, hC.call h.2⟩)
                  | (go_at_call 18; with_reducible exact (rPut8_r z _).mono fun _ _ h => ⟨h.1, hC.call h.2⟩)
                  | fail)))
            refine wpQuiet_nil ?_
            intro w9 hC
            have ST' := Lib.hid (ST.out.call hC.below)
            clear hC
            clear ST; have ST := ST'; clear ST'
            clear ha1 ha2 hcx cc
            go_wp2_with fail
            go_roundw
            case rel => exact ⟨j + 1, (L2 ++ (putL z 8 ++ x.2.1)), by omega, by go_num, rfl, Lib.hid (HT.out.trans (by unfold outB; rw [HZ.out])).symm, ST⟩
            case measure => simp [intOf]; omega
          · have hje : j = a.T.outs.length := by omega
            have hd : decide ((j : Int) < (a.T.outs.length : Int)) = false := by simp; omega
            have HW2 := Lib.hid (show L2 = P2 ++ a.T.outs.flatMap outB by rw [HL.out, hje, List.take_length])
            have cc := TxA.c2 (RowC.of_blk ST.out.ka)
            have HBL := Lib.hid (show L2.length ≤ 3062 by have := HB.out; have := L0.out; omega)
            clear HL HB hje hj
            have cc2 := TxA.c4 (RowC.of_blk ST.out.ka)
            obtain ⟨P4, hP4⟩ : ∃ P, L2 ++ cmpL a.T.nulls.length = P := ⟨_, rfl⟩
            have hac : ∀ V, (Op.stringOp .add ⟨(L2).toArray⟩ ⟨(cmpL a.T.nulls.length).toArray⟩).run Try.prog V = .ok (.string ⟨P4.toArray⟩) V := fun V => hP4 ▸ run_string_add_lists V _ _ (by have := HBL.out; omega) (by have := cmpL_le a.T.nulls.length; omega)
            have HP3071 := Lib.hid (show P4.length ≤ 3071 by rw [← hP4, List.length_append]; have := HBL.out; have := cmpL_le a.T.nulls.length; omega)
            have HQ4 := Lib.hid hP4
            clear hP4
            go_wp2_with fail
            refine (refCompact_any a.T.nulls.length _).mono ?_
            rintro e w9 ⟨rfl, hb⟩
            have ST' := Lib.hid (ST.out.call hb)
            clear hb
            clear ST; have ST := ST'; clear ST'
            have hp0 : decide ((0 : Int) < (a.T.nulls.length : Int)) = true := by have := HZ0.out; simp only [decide_eq_true_iff]; omega
            have hp1 : decide (0 < a.T.nulls.length) = true := by have := HZ0.out; simp only [decide_eq_true_iff]; omega
            obtain ⟨PA, hPA⟩ : ∃ P, P4 ++ a.T.anchor.1 = P := ⟨_, rfl⟩
            have haA : ∀ V, (Op.stringOp .add ⟨(P4).toArray⟩ ⟨(a.T.anchor.1).toArray⟩).run Try.prog V = .ok (.string ⟨PA.toArray⟩) V := fun V => hPA ▸ run_string_add_lists V _ _ (by have := HP3071.out; omega) (by rw [a.T.anchor.2]; omega)
            have HP3103 := Lib.hid (show PA.length ≤ 3103 by rw [← hPA, List.length_append, a.T.anchor.2]; have := HP3071.out; omega)
            have HQA := Lib.hid hPA
            clear hPA
            have cc4 := TxA.c4 (RowC.of_blk ST.out.ka)
            have HK := Lib.hid (TxA.c3 (RowC.of_blk ST.out.ka))
            go_wp2_with ((with_reducible refine at_load 120 ?_); refine tyKy.wpList_load rfl (.tmp 120) rfl w.heap.size 3 rfl a.T.anchor HK.out ?_)
            refine (rBytes_r a.T.anchor _).mono ?_
            rintro e w9 ⟨rfl, hb⟩
            have ST' := Lib.hid (ST.out.call hb)
            clear hb
            clear ST; have ST := ST'; clear ST'
            clear cc4 HK
            go_wp2_with fail
            go_loopw [4, 7] (fun s i wr => ∃ (j : Nat) (L : List UInt8), j ≤ a.T.nulls.length ∧ i = .int .i64 j ∧ s = .string ⟨L.toArray⟩ ∧ Hid (L = PA ++ (a.T.nulls.take j).flatMap keyB) ∧ Hid (EnS w a wr)) (fun _ i _ => a.T.nulls.length - (intOf i).toNat)
            case atStart => exact ⟨0, PA, Nat.zero_le _, rfl, rfl, Lib.hid (by simp), ST⟩
            case round =>
              clear ST
              obtain ⟨wo, rfl⟩ : ∃ q, q = wr := ⟨_, rfl⟩
              obtain ⟨j, L4, hj, rfl, rfl, HL, ST⟩ := hrel
              have HB := Lib.hid (show L4.length ≤ 3103 + 32 * j by
                rw [HL.out, List.length_append, flat_len keyB 32 (fun k => k.2), List.length_take]
                have := HP3103.out
                have : min j a.T.nulls.length ≤ j := Nat.min_le_left _ _
                omega)
              by_cases hlt : j < a.T.nulls.length
              · obtain ⟨g1, o1, e1, l1, rc1⟩ := (show RowIn encK 32 wo wo.heap.size a.An a.cn a.T.nulls from ST.out.ia.nulls).at (encK_len) hlt
                obtain ⟨x, hx⟩ : ∃ x, a.T.nulls[j] = x := ⟨_, rfl⟩
                rw [hx] at rc1
                have HT := Lib.hid (show PA ++ (a.T.nulls.take (j + 1)).flatMap keyB = L4 ++ keyB x by rw [take_flat _ _ _ _ hlt, hx, HL.out])
                have CC := Lib.hid (show wo.cell? ⟨w.heap.size, 35, none⟩ = some (.slice (some ⟨g1, o1, none⟩) a.T.nulls.length a.cn) by rw [← e1]; exact TxA.c4 (RowC.of_blk ST.out.ka))
                have RC := Lib.hid rc1
                have hj39 : j ≤ 39 := by have := L0.out; omega
                have HJ := Lib.hid hj39
                clear hx rc1 e1
                have cc := CC.out
                have ha1 : ∀ V, (Op.stringOp .add ⟨(L4).toArray⟩ ⟨(x.1).toArray⟩).run Try.prog V = .ok (.string ⟨(L4 ++ x.1).toArray⟩) V := fun V => run_string_add_lists V _ _ (by have := HB.out; have := HJ.out; omega) (by rw [x.2]; omega)
                go_wp2_with ((with_reducible refine at_load 135 ?_); refine tyKy.wpList_load rfl (.tmp 135) rfl g1 (o1 + j * 32) rfl x RC.out ?_)
                refine (rBytes_r x _).mono ?_
                rintro e w9 ⟨rfl, hb⟩
                have ST' := Lib.hid (ST.out.call hb)
                clear hb
                clear ST; have ST := ST'; clear ST'
                clear cc
                go_wp2_with fail
                go_roundw
                case rel => exact ⟨j + 1, (L4 ++ x.1), by omega, by go_num, rfl, Lib.hid (HT.out.trans (rfl)).symm, ST⟩
                case measure => simp [intOf]; omega
              · have hje : j = a.T.nulls.length := by omega
                have hd : decide ((j : Int) < (a.T.nulls.length : Int)) = false := by simp; omega
                have HW4 := Lib.hid (show L4 = PA ++ a.T.nulls.flatMap keyB by rw [HL.out, hje, List.take_length])
                have cc := TxA.c4 (RowC.of_blk ST.out.ka)
                have HBL := Lib.hid (show L4.length ≤ 4383 by have := HB.out; have := L0.out; omega)
                clear HL HB hje hj
                have cc2 := TxA.c5 (RowC.of_blk ST.out.ka)
                obtain ⟨P7, hP7⟩ : ∃ P, L4 ++ cmpL a.T.notes.length = P := ⟨_, rfl⟩
                have hac : ∀ V, (Op.stringOp .add ⟨(L4).toArray⟩ ⟨(cmpL a.T.notes.length).toArray⟩).run Try.prog V = .ok (.string ⟨P7.toArray⟩) V := fun V => hP7 ▸ run_string_add_lists V _ _ (by have := HBL.out; omega) (by have := cmpL_le a.T.notes.length; omega)
                have HP4392 := Lib.hid (show P7.length ≤ 4392 by rw [← hP7, List.length_append]; have := HBL.out; have := cmpL_le a.T.notes.length; omega)
                have HQ5 := Lib.hid hP7
                clear hP7
                go_wp2_with fail
                refine (refCompact_any a.T.notes.length _).mono ?_
                rintro e w9 ⟨rfl, hb⟩
                have ST' := Lib.hid (ST.out.call hb)
                clear hb
                clear ST; have ST := ST'; clear ST'
                go_wp2_with fail
                go_loopw [4, 8] (fun s i wr => ∃ (j : Nat) (L : List UInt8), j ≤ a.T.notes.length ∧ i = .int .i64 j ∧ s = .string ⟨L.toArray⟩ ∧ Hid (L = P7 ++ (a.T.notes.take j).flatMap keyB) ∧ Hid (EnS w a wr)) (fun _ i _ => a.T.notes.length - (intOf i).toNat)
                case atStart => exact ⟨0, P7, Nat.zero_le _, rfl, rfl, Lib.hid (by simp), ST⟩
                case round =>
                  clear ST
                  obtain ⟨wo, rfl⟩ : ∃ q, q = wr := ⟨_, rfl⟩
                  obtain ⟨j, L5, hj, rfl, rfl, HL, ST⟩ := hrel
                  have HB := Lib.hid (show L5.length ≤ 4392 + 32 * j by
                    rw [HL.out, List.length_append, flat_len keyB 32 (fun k => k.2), List.length_take]
                    have := HP4392.out
                    have : min j a.T.notes.length ≤ j := Nat.min_le_left _ _
                    omega)
                  by_cases hlt : j < a.T.notes.length
                  · obtain ⟨g1, o1, e1, l1, rc1⟩ := (show RowIn encK 32 wo wo.heap.size a.At a.ct a.T.notes from ST.out.ia.notes).at (encK_len) hlt
                    obtain ⟨x, hx⟩ : ∃ x, a.T.notes[j] = x := ⟨_, rfl⟩
                    rw [hx] at rc1
                    have HT := Lib.hid (show P7 ++ (a.T.notes.take (j + 1)).flatMap keyB = L5 ++ keyB x by rw [take_flat _ _ _ _ hlt, hx, HL.out])
                    have CC := Lib.hid (show wo.cell? ⟨w.heap.size, 36, none⟩ = some (.slice (some ⟨g1, o1, none⟩) a.T.notes.length a.ct) by rw [← e1]; exact TxA.c5 (RowC.of_blk ST.out.ka))
                    have RC := Lib.hid rc1
                    have hj39 : j ≤ 39 := by have := L0.out; omega
                    have HJ := Lib.hid hj39
                    clear hx rc1 e1
                    have cc := CC.out
                    have ha1 : ∀ V, (Op.stringOp .add ⟨(L5).toArray⟩ ⟨(x.1).toArray⟩).run Try.prog V = .ok (.string ⟨(L5 ++ x.1).toArray⟩) V := fun V => run_string_add_lists V _ _ (by have := HB.out; have := HJ.out; omega) (by rw [x.2]; omega)
                    go_wp2_with ((with_reducible refine at_load 157 ?_); refine tyKy.wpList_load rfl (.tmp 157) rfl g1 (o1 + j * 32) rfl x RC.out ?_)
                    refine (rBytes_r x _).mono ?_
                    rintro e w9 ⟨rfl, hb⟩
                    have ST' := Lib.hid (ST.out.call hb)
                    clear hb
                    clear ST; have ST := ST'; clear ST'
                    clear cc
                    go_wp2_with fail
                    go_roundw
                    case rel => exact ⟨j + 1, (L5 ++ x.1), by omega, by go_num, rfl, Lib.hid (HT.out.trans (rfl)).symm, ST⟩
                    case measure => simp [intOf]; omega
                  · have hje : j = a.T.notes.length := by omega
                    have hd : decide ((j : Int) < (a.T.notes.length : Int)) = false := by simp; omega
                    have HW5 := Lib.hid (show L5 = P7 ++ a.T.notes.flatMap keyB by rw [HL.out, hje, List.take_length])
                    have cc := TxA.c5 (RowC.of_blk ST.out.ka)
                    have HBL := Lib.hid (show L5.length ≤ 5672 by have := HB.out; have := L0.out; omega)
                    clear HL HB hje hj
                    have cc6 := TxA.c6 (RowC.of_blk ST.out.ka)
                    obtain ⟨P9, hP9⟩ : ∃ P, L5 ++ putL (ofI64 a.T.bal) 8 = P := ⟨_, rfl⟩
                    have haz : ∀ V, (Op.stringOp .add ⟨(L5).toArray⟩ ⟨(putL (ofI64 a.T.bal) 8).toArray⟩).run Try.prog V = .ok (.string ⟨P9.toArray⟩) V := fun V => hP9 ▸ run_string_add_lists V _ _ (by have := HBL.out; omega) (by rw [putL_len]; omega)
                    have HQ9 := Lib.hid hP9
                    clear hP9
                    go_wp2_with fail
                    refine (rPut8_r (ofI64 a.T.bal) _).mono ?_
                    rintro e w9 ⟨rfl, hb⟩
                    have ST' := Lib.hid (ST.out.call hb)
                    clear hb
                    clear ST; have ST := ST'; clear ST'
                    go_wp2
                    go_ret2
                    refine ⟨?_, ST.out.below⟩
                    rw [show P9 = txB a.T from by
                      rw [← HQ9.out, HW5.out, ← HQ5.out, HW4.out, ← HQA.out, ← HQ4.out, HW2.out, ← HQ2.out, HW1.out, ← HQ0.out, ← HE.out]
                      have hk : ∀ l : List K32, l.flatMap (fun k => k.1) = l.flatMap keyB := fun _ => rfl
                      unfold txB manyB nullB
                      simp only [hk, HZ0.out, if_false, List.append_assoc]]
                    rfl
theorem refEncA_any (a : TxA) (w : World) (h : a.In w w.heap.size) :
    Calls Try.prog 11 #[.agg a.cells.toArray] w fun e w' => e = .returned (encV (encF a.T)) ∧ Below w.heap.size w w' := by
  by_cases hm : 40 < a.T.ins.length ∨ 40 < a.T.outs.length ∨ 40 < a.T.nulls.length ∨ 40 < a.T.notes.length
  · exact rEnc_many a w hm
  by_cases ha : a.T.nulls.length = 0 ∧ a.T.anchor ≠ zeroKey
  · exact rEnc_arg a w (by omega) ha.1 ha.2
  · have hok : OkTx a.T := ⟨by omega, by omega, by omega, by omega, fun q => Classical.byContradiction fun e => ha ⟨q, e⟩⟩
    rw [encF_ok a.T hok]
    exact rEnc_ok a w h hok
end Go.Proofs.Ytimhophelecmjaa
/- slices.Equal at the three types of a transaction's lists; tx.Same. Written by genEq.py. -/
namespace Go.Proofs.Ytimhophelecmjaa
open Go.RowKit
/-- what lies there while Same is at work: both transactions -/
structure SaS (w0 : World) (a b : TxA) (w : World) : Prop where
  below : Below w0.heap.size w0 w
  ka : Blk w w0.heap.size 29 a.cells.toArray
  kb : Blk w (w0.heap.size + 1) 29 b.cells.toArray
  ia : a.In w w.heap.size
  ib : b.In w w.heap.size
theorem SaS.call {w0 w w' : World} {a b : TxA} (h : SaS w0 a b w) (hb : Below w.heap.size w w') : SaS w0 a b w' where
  below := h.below.trans (hb.mono h.below.size)
  ka := below_blk hb h.ka h.ka.lt
  kb := below_blk hb h.kb h.kb.lt
  ia := h.ia.on hb (Nat.le_refl _)
  ib := h.ib.on hb (Nat.le_refl _)
theorem sameF_parts (T U : TxV) : sameF T U = ((T.exp.1 == U.exp.1) && (decide (T.ins = U.ins) && (decide (T.outs = U.outs) && (decide (T.anchor = U.anchor) && (decide (T.nulls = U.nulls) && (decide (T.notes = U.notes) && (T.bal.1 == U.bal.1))))))) := by
  have h1 : (T.exp.1 == U.exp.1) = decide (T.exp = U.exp) := by
    rw [Bool.eq_iff_iff, decide_eq_true_iff]
    simp only [beq_iff_eq]
    exact ⟨fun h => Subtype.ext h, fun h => by rw [h]⟩
  have h2 : (T.bal.1 == U.bal.1) = decide (T.bal = U.bal) := by
    rw [Bool.eq_iff_iff, decide_eq_true_iff]
    simp only [beq_iff_eq]
    exact ⟨fun h => Subtype.ext h, fun h => by rw [h]⟩
  rw [h1, h2]
  unfold sameF
  simp only [Bool.and_assoc]
end Go.Proofs.Ytimhophelecmjaa
