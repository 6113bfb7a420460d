/- TxAllB: TxR, TxS, TxT, TxL, TxU, TxOw, TxX, TxV, TxZ, TxD, in one text. -/
import Derived.Test.YtimhophelecmjaaTxAllA
import Derived.Test.YtimhophelecmjaaCodAll
import Derived.WalkLawsBesides
import Derived.Test.YtimhophelecmjaaGenA
import Derived.Deep.RegionHeld3
import Derived.Defers
import Derived.Recover
import Derived.RegionTactic
/- tx's reader: what it leaves, how a method of it ends; step, get. -/
namespace Go.Proofs.Ytimhophelecmjaa
open Go.RowKit
/-- all that there was is as it was, but block g -/
structure Past (g : Nat) (w w' : World) : Prop where
  os : w'.os = w.os
  tape : w'.tape = w.tape
  output : w'.output = w.output
  size : w.heap.size ≤ w'.heap.size
  block : ∀ i, i < w.heap.size → i ≠ g → w'.heap[i]? = w.heap[i]?
section
variable {g : Nat} {w w1 w2 : World}
theorem Past.refl (g : Nat) (w : World) : Past g w w := ⟨rfl, rfl, rfl, Nat.le_refl _, fun _ _ _ => rfl⟩
theorem Past.trans (h : Past g w w1) (k : Past g w1 w2) : Past g w w2 :=
  ⟨k.os.trans h.os, k.tape.trans h.tape, k.output.trans h.output, Nat.le_trans h.size k.size, fun i hi hg => (k.block i (Nat.lt_of_lt_of_le hi h.size) hg).trans (h.block i hi hg)⟩
theorem Past.of_below (h : Below w.heap.size w w1) : Past g w w1 := ⟨h.os, h.tape, h.output, h.size, fun i hi _ => h.block i hi⟩
theorem Past.of_only (h : Only [g] w w1) : Past g w w1 := ⟨h.os, h.tape, h.output, Nat.le_of_eq h.size.symm, fun i _ hg => h.block i (by simpa using hg)⟩
theorem Past.blk (h : Past g w w1) {k : Nat} {t : TypeId} {cs : Array Value} (hb : Blk w k t cs) (hk : k ≠ g) : Blk w1 k t cs := (h.block k hb.lt hk).trans hb
theorem Past.below (h : Past g w w1) {B : Nat} (hB : B ≤ g) (hw : B ≤ w.heap.size) : Below B w w1 := ⟨h.os, h.tape, h.output, h.size, fun i hi => h.block i (by omega) (by omega)⟩
theorem Past.drewN (h : Past g w w1) (n : Nat) : Past g w (w1.drewN n) := ⟨h.os, h.tape, h.output, h.size, h.block⟩
end
def VU (n : Nat) (v : Value) (_ : World) : Prop := v = .int .u64 n
def VI (n : Nat) (v : Value) (_ : World) : Prop := v = .int .i64 n
def VK (k : K32) (v : Value) (_ : World) : Prop := v = .agg (encK k).toArray
theorem getR_f (wd : Nat) (h1 : 1 ≤ wd) (h8 : wd ≤ 8) (l : List UInt8) : (l.length < wd ∧ getF l wd = (0, [], 30) ∧ getR wd l = .error 30) ∨ (¬ l.length < wd ∧ getF l wd = (getN (l.take wd), l.drop wd, 0) ∧ getR wd l = .ok (getN (l.take wd), l.drop wd)) := by
  unfold getF getR
  by_cases h : l.length < wd
  · exact .inl ⟨h, by rw [if_neg (by omega), if_pos (by omega)], by rw [if_pos h]⟩
  · exact .inr ⟨h, by rw [if_neg (by omega), if_neg (by omega)]; rfl, by rw [if_neg h]⟩
def Vu32 (z : IntV .u32) (v : Value) (_ : World) : Prop := v = .int .u32 z.1
def Vi64 (z : IntV .i64) (v : Value) (_ : World) : Prop := v = .int .i64 z.1
end Go.Proofs.Ytimhophelecmjaa
/- tx's reader: step of a count and of a key; count, key, point, out. -/
namespace Go.Proofs.Ytimhophelecmjaa
open Go.RowKit
theorem Past.new {g k : Nat} {w w1 w2 : World} (h : Past g w w1) (o : Only [k] w1 w2) (hk : w.heap.size ≤ k) : Past g w w2 :=
  ⟨o.os.trans h.os, o.tape.trans h.tape, o.output.trans h.output, Nat.le_trans h.size (Nat.le_of_eq o.size.symm), fun i hi hg => (o.block i (by simp; omega)).trans (h.block i hi hg)⟩
def readR (l : List UInt8) : Except Int (Nat × List UInt8) := match readF l with
  | (n, r, e) => if e = 0 then .ok (n, r) else .error e
theorem readR_f (l : List UInt8) : (∃ er, er ≠ 0 ∧ readF l = (0, [], er) ∧ readR l = .error er) ∨ ∃ n r, readF l = (n, r, 0) ∧ readR l = .ok (n, r) ∧ n < 2 ^ 64 := by
  unfold readR
  rcases readF_cases l with ⟨n, r, h, _, hn⟩ | h | h
  · exact .inr ⟨n, r, h, by rw [h]; rfl, hn⟩
  · exact .inl ⟨30, by decide, h, by rw [h]; rfl⟩
  · exact .inl ⟨31, by decide, h, by rw [h]; rfl⟩
theorem keyR_f (l : List UInt8) : (keyF l = (List.replicate 32 0, [], 30) ∧ keyR l = .error 30) ∨ ∃ (k : K32) (r : List UInt8), keyF l = (k.1, r, 0) ∧ keyR l = .ok (k, r) := by
  unfold keyF keyR
  by_cases h : l.length < 32
  · exact .inl ⟨by rw [if_pos h], by rw [dif_pos h]⟩
  · exact .inr ⟨⟨l.take 32, by rw [List.length_take]; omega⟩, l.drop 32, by rw [if_neg h], by rw [dif_neg h]⟩
end Go.Proofs.Ytimhophelecmjaa
/- tx's reader: key, point, out. -/
namespace Go.Proofs.Ytimhophelecmjaa
open Go.RowKit
def VP (p : K32 × IntV .u32) (v : Value) (_ : World) : Prop := v = .agg (encKI .u32 p).toArray
def VO (p : IntV .i64 × K32) (v : Value) (_ : World) : Prop := v = .agg (encIK .i64 p).toArray
theorem rest_len {α : Type} {W : α → List UInt8} {R : Rd α} {V : α → Prop} (h : Good W R V) {l r : List UInt8} {a : α} (he : R l = .ok (a, r)) (hs : l.length ≤ 1000000) : r.length ≤ 1000000 := by
  have := (h.bwd _ _ _ he).2
  rw [this, List.length_append] at hs
  omega
theorem built_KI (t : TypeId) (ht : t = 43) (k : K32) (z : IntV .u32) : Try.prog.built t [(0, .agg (encK k).toArray), (1, .int .u32 z.1)] = some (encKI .u32 (k, z)).toArray := by
  subst ht
  obtain ⟨l, hl⟩ := k
  iterate 32 (rcases l with _ | ⟨b, l⟩; · simp at hl)
  rcases l with _ | ⟨b, l⟩
  · kernel_rfl
  · simp at hl
theorem built_IK (t : TypeId) (ht : t = 37) (k : K32) (z : IntV .i64) : Try.prog.built t [(0, .int .i64 z.1), (1, .agg (encK k).toArray)] = some (encIK .i64 (z, k)).toArray := by
  subst ht
  obtain ⟨l, hl⟩ := k
  iterate 32 (rcases l with _ | ⟨b, l⟩; · simp at hl)
  rcases l with _ | ⟨b, l⟩
  · kernel_rfl
  · simp at hl
end Go.Proofs.Ytimhophelecmjaa
/- tx.list at its three types. Written by genList.py. -/
namespace Go.Proofs.Ytimhophelecmjaa
open Go.RowKit
def contL {α : Type} (pre : List α) (x : Except Int (List α × List UInt8)) : Except Int (List α × List UInt8) := match x with
  | .error e => .error e
  | .ok (l, r) => .ok (pre ++ l, r)
theorem listR_err {α : Type} {R : Rd α} {m : Nat} {r : List UInt8} {e : Int} (h : R r = .error e) : listR R (m + 1) r = .error e := by
  simp only [listR, mapR, thenR, h]
theorem listR_ok {α : Type} {R : Rd α} {m : Nat} {r r2 : List UInt8} {a : α} (h : R r = .ok (a, r2)) (pre : List α) : contL pre (listR R (m + 1) r) = contL (pre ++ [a]) (listR R m r2) := by
  simp only [listR, mapR, thenR, h]
  cases listR R m r2 with
  | error e => rfl
  | ok p => obtain ⟨l, r⟩ := p; simp [contL]
/-- a slice of what was read, whole in a block of its own -/
def VL {α : Type} (enc : α → List Value) (e : TypeId) (l : List α) (v : Value) (w : World) : Prop := ∃ h, v = .slice (some ⟨h, 0, none⟩) l.length l.length ∧ Blk w h e (cellsOf enc l).toArray
theorem set_fill {α : Type} (l : List α) (z a : α) (m : Nat) : (l ++ List.replicate (m + 1) z).set l.length a = (l ++ [a]) ++ List.replicate m z := by
  rw [List.replicate_succ]
  simp
end Go.Proofs.Ytimhophelecmjaa
/- tx's reader: what it holds while a transaction is read. -/
namespace Go.Proofs.Ytimhophelecmjaa
open Go.RowKit
/-- a list that lies whole in a block of its own, or nowhere -/
def LB {α : Type} (enc : α → List Value) (e : TypeId) (w : World) (A : Option Addr) (c : Nat) (l : List α) : Prop :=
  (A = none ∧ c = 0 ∧ l = []) ∨ ∃ h, A = some ⟨h, 0, none⟩ ∧ c = l.length ∧ Blk w h e (cellsOf enc l).toArray
section
variable {α : Type} {enc : α → List Value} {e : TypeId} {w w' : World} {A : Option Addr} {c : Nat} {l : List α}
theorem LB.past (h : LB enc e w A c l) {g : Nat} (hp : Past g w w') {t : TypeId} {cs : Array Value} (hg : Blk w g t cs) (hne : e ≠ t) : LB enc e w' A c l := by
  rcases h with h | ⟨b, h1, h2, h3⟩
  · exact .inl h
  · exact .inr ⟨b, h1, h2, hp.blk h3 (h3.ne_ hg hne)⟩
theorem LB.only (h : LB enc e w A c l) {g : Nat} (ho : Only [g] w w') {t : TypeId} {cs : Array Value} (hg : Blk w g t cs) (hne : e ≠ t) : LB enc e w' A c l := by
  rcases h with h | ⟨b, h1, h2, h3⟩
  · exact .inl h
  · exact .inr ⟨b, h1, h2, ho.blk h3 (by have := h3.ne_ hg hne; simpa using this)⟩
theorem LB.row {k : Nat} (h : LB enc e w A c l) (hm : l.length ≤ maxLen) : RowIn enc k w w.heap.size A c l := by
  rcases h with ⟨rfl, rfl, rfl⟩ | ⟨b, rfl, rfl, h3⟩
  · exact RowIn.nil (Nat.zero_le _)
  · exact (rowIn_blk h3 (Nat.le_refl _) hm).more h3.lt
theorem LB.mk {v : Value} (h : VL enc e l v w) : ∃ A, v = .slice A l.length l.length ∧ LB enc e w A l.length l := by
  obtain ⟨b, h1, h2⟩ := h
  exact ⟨_, h1, .inr ⟨b, rfl, rfl, h2⟩⟩
end
def aZ : TxA := ⟨txZero, none, 0, none, 0, none, 0, none, 0⟩
/-- the lists of a transaction, each in a block of its own -/
structure TL (w : World) (a : TxA) : Prop where
  ins : LB (encKI .u32) 43 w a.Ai a.ci a.T.ins
  outs : LB (encIK .i64) 37 w a.Ao a.co a.T.outs
  nulls : LB encK 24 w a.An a.cn a.T.nulls
  notes : LB encK 24 w a.At a.ct a.T.notes
section
variable {w0 w w' : World} {g g2 g3 : Nat} {a a' : TxA} {r r' : List UInt8}
theorem TL.only (h : TL w a) {cs : Array Value} (ho : Only [g] w w') (hg : Blk w g 29 cs) : TL w' a :=
  ⟨h.ins.only ho hg (by decide), h.outs.only ho hg (by decide), h.nulls.only ho hg (by decide), h.notes.only ho hg (by decide)⟩
end
theorem TL.inn {w : World} {a : TxA} (h : TL w a) (hok : OkTx a.T) : a.In w w.heap.size :=
  ⟨h.ins.row (Nat.le_trans hok.1 (by decide)), h.outs.row (Nat.le_trans hok.2.1 (by decide)), h.nulls.row (Nat.le_trans hok.2.2.1 (by decide)), h.notes.row (Nat.le_trans hok.2.2.2.1 (by decide))⟩
theorem TxA.set_anchor (a : TxA) (k : K32) : (a.cells.take 3 ++ encK k ++ a.cells.drop (3 + 32)) = (({ a with T := { a.T with anchor := k } } : TxA)).cells := by
  have hl := encK_len a.T.anchor
  simp [TxA.cells, txCells, hl]
theorem TxA.set_exp (a : TxA) (z : IntV .u32) : a.cells.toArray.setIfInBounds 0 (.int .u32 z.1) = (({ a with T := { a.T with exp := z } } : TxA)).cells.toArray := tx_set_exp z
theorem TxA.set_ins' (a : TxA) (l : List (K32 × IntV .u32)) (A : Option Addr) (c : Nat) : a.cells.toArray.setIfInBounds 1 (.slice A l.length c) = (({ a with T := { a.T with ins := l }, Ai := A, ci := c } : TxA)).cells.toArray := tx_set_ins l A c
theorem TxA.set_outs (a : TxA) (l : List (IntV .i64 × K32)) (A : Option Addr) (c : Nat) : a.cells.toArray.setIfInBounds 2 (.slice A l.length c) = (({ a with T := { a.T with outs := l }, Ao := A, co := c } : TxA)).cells.toArray := tx_set_outs l A c
theorem TxA.set_nulls (a : TxA) (l : List K32) (A : Option Addr) (c : Nat) : a.cells.toArray.setIfInBounds 35 (.slice A l.length c) = (({ a with T := { a.T with nulls := l }, An := A, cn := c } : TxA)).cells.toArray := tx_set_nulls l A c
theorem TxA.set_notes (a : TxA) (l : List K32) (A : Option Addr) (c : Nat) : a.cells.toArray.setIfInBounds 36 (.slice A l.length c) = (({ a with T := { a.T with notes := l }, At := A, ct := c } : TxA)).cells.toArray := tx_set_notes l A c
theorem TxA.set_bal (a : TxA) (z : IntV .i64) : a.cells.toArray.setIfInBounds 37 (.int .i64 z.1) = (({ a with T := { a.T with bal := z } } : TxA)).cells.toArray := tx_set_bal z
theorem kcast {w : World} {g : Nat} {t : TypeId} {cs cs' : Array Value} (h : cs = cs') (hb : Blk w g t cs) : Blk w g t cs' := h ▸ hb
end Go.Proofs.Ytimhophelecmjaa
/- Rows of its own that a function appends to: what holds of them as the world goes on. -/
namespace Go.Proofs.Ytimhophelecmjaa
open Go.RowKit
theorem xown_from {w W : World} {base : Nat} {e : TypeId} {size n : Nat} {v : Value} {xs : List Value} (h : w.ownsRow base e size v n xs) (hb : Below w.heap.size w W) : W.ownsRow base e size v n xs :=
  ⟨h.1, h.2.imp id fun ⟨g, cap, cur, h1, h2, h3, h4⟩ => ⟨g, cap, cur, h1, h2, (hb.block g (by
    rcases Nat.lt_or_ge g w.heap.size with hlt | hge
    · exact hlt
    · rw [Array.getElem?_eq_none hge] at h3; cases h3)).trans h3, h4⟩⟩
theorem xown_grown {w w' : World} {base : Nat} {e : TypeId} {size n : Nat} {v : Value} {xs : List Value} (h : w.ownsRow base e size v n xs) (hg : w.grownBy w' v.ownBlock) (hB : base ≤ w.heap.size) : Below base w w' := (Below.refl _ _).grown hg hB (own_base h)
theorem xown_nil {w : World} {g : Nat} {base : Nat} {e : TypeId} {k : Nat} (hb : Blk w g e #[]) (hg : base ≤ g) : w.ownsRow base e k (.slice (some ⟨g, 0, none⟩) 0 0) 0 [] :=
  ⟨by simp, .inr ⟨g, 0, #[], rfl, hg, hb, Nat.le_refl _, Nat.zero_le _, by simp, by simp⟩⟩
theorem xown_base {w : World} {b b' : Nat} {e : TypeId} {k n : Nat} {v : Value} {xs : List Value} (h : w.ownsRow b e k v n xs) (hb : b' ≤ b) : w.ownsRow b' e k v n xs :=
  ⟨h.1, h.2.imp id fun ⟨g, cap, cur, h1, h2, h3, h4⟩ => ⟨g, cap, cur, h1, Nat.le_trans hb h2, h3, h4⟩⟩
/-- an own row that holds as a store goes elsewhere -/
theorem xown_only {w w' : World} {g base : Nat} {e t : TypeId} {k n : Nat} {v : Value} {xs : List Value} {cs : Array Value} (h : w.ownsRow base e k v n xs) (ho : Only [g] w w') (hg : Blk w g t cs) (hne : e ≠ t) : w'.ownsRow base e k v n xs :=
  ⟨h.1, h.2.imp id fun ⟨b, cap, cur, h1, h2, h3, h4⟩ => ⟨b, cap, cur, h1, h2, ho.blk h3 (by have := Blk.ne_ (w := w) h3 hg hne; simpa using this), h4⟩⟩
theorem row_own {w : World} {α : Type} {enc : α → List Value} {k b c : Nat} {e : TypeId} {A : Option Addr} {l : List α} (hk : ∀ x, (enc x).length = k) (h : w.ownsRow b e k (.slice A l.length c) l.length (cellsOf enc l)) : RowIn enc k w w.heap.size A c l := by
  obtain ⟨A', c', hv, hr⟩ := RowIn.of_own hk h
  injection hv with h1 h2 h3
  subst h1 h3
  exact hr
theorem zsKy : ((Try.prog.info? 24).bind (·.zero)).isSome = true := by kernel_rfl
theorem zcPt : ((Try.prog.info? 43).bind (·.zero)).map (·.cells.size) = some 33 := by kernel_rfl
theorem zbPt : (Try.prog.info? 43).map (·.bytes) = some 36 := by kernel_rfl
theorem zsPt : ((Try.prog.info? 43).bind (·.zero)).isSome = true := by kernel_rfl
theorem zcOut : ((Try.prog.info? 37).bind (·.zero)).map (·.cells.size) = some 33 := by kernel_rfl
theorem zbOut : (Try.prog.info? 37).map (·.bytes) = some 40 := by kernel_rfl
theorem zsOut : ((Try.prog.info? 37).bind (·.zero)).isSome = true := by kernel_rfl
end Go.Proofs.Ytimhophelecmjaa
/- tx's reader: a transaction is read. Written by genTx.py. -/
namespace Go.Proofs.Ytimhophelecmjaa
open Go.RowKit
/-- a transaction as an answer -/
def VT (T : TxV) (v : Value) (w : World) : Prop := ∃ a : TxA, a.T = T ∧ v = .agg a.cells.toArray ∧ TL w a
end Go.Proofs.Ytimhophelecmjaa
/- tx's reader: try, which recovers; Read, Decode. -/
namespace Go.Proofs.Ytimhophelecmjaa
open Go.RowKit
theorem TL.onlyT {w w' : World} {g : Nat} {a : TxA} (h : TL w a) {t : TypeId} {cs : Array Value} (ho : Only [g] w w') (hg : Blk w g t cs) (h1 : 43 ≠ t) (h2 : 37 ≠ t) (h3 : 24 ≠ t) : TL w' a :=
  ⟨h.ins.only ho hg h1, h.outs.only ho hg h2, h.nulls.only ho hg h3, h.notes.only ho hg h3⟩
def panE (er : Int) : List PanicEntry := [{ v := .iface 31 (.int .i64 er), recovered := false }]
theorem tas_errno (v : Value) (w : World) : (Instr.typeAssert (.iface 31 v) 20 31 false).run Try.prog w = .ok v w := by kernel_rfl
theorem loadTx (a : TxA) {w : World} {g : Nat} (h : Blk w g 29 a.cells.toArray) : (loadVar 29 ⟨g, 0, none⟩).run Try.prog w = .ok (.agg a.cells.toArray) w := tyTx.load w g 0 a (by simpa using RowC.of_blk h)
theorem loadErr {w : World} {g : Nat} {v : Value} (h : Blk w g 31 #[v]) : (loadVar 31 ⟨g, 0, none⟩).run Try.prog w = .ok v w := run_loadVar_one Try.isAgg31 ((h.cell 0).trans rfl)
theorem at_storeK {P : Program} {ops : Array Oper} {rest : List Oper} {a : Act} {w : World} {Q : Exit → Act → World → Prop} {ty ty0 : TypeId} {v : Value} {pos : String} {after : Array Edge} (i : Nat)
    (h : wpList P ops Q ({ dst := none, op := .store ty (.tmp i) (.const v), type := ty0, pos := pos, after := after, guard := none } :: rest) a w) :
    wpList P ops Q ({ dst := none, op := .store ty (.tmp i) (.const v), type := ty0, pos := pos, after := after, guard := none } :: rest) a w := h
end Go.Proofs.Ytimhophelecmjaa
/- tx.Read and Decode. Written by genRd.py. -/
namespace Go.Proofs.Ytimhophelecmjaa
open Go.RowKit
theorem aZ_no : aZ.T = noTx := by
  unfold aZ txZero noTx zeroKey toU32 toI64
  rfl
theorem ok_no : OkTx noTx := ⟨Nat.zero_le _, Nat.zero_le _, Nat.zero_le _, Nat.zero_le _, fun _ => rfl⟩
theorem tl_no (w : World) : TL w aZ := ⟨.inl ⟨rfl, rfl, rfl⟩, .inl ⟨rfl, rfl, rfl⟩, .inl ⟨rfl, rfl, rfl⟩, .inl ⟨rfl, rfl, rfl⟩⟩
theorem readTx_ok (l : List UInt8) : OkTx (readTx l).1 := by
  unfold readTx
  cases h : txR l with
  | error e => exact ok_no
  | ok x => exact (good_tx.bwd _ _ _ h).1
theorem decTx_okk (l : List UInt8) : OkTx (decTx l).1 := by
  unfold decTx
  cases h : txR l with
  | error e => exact ok_no
  | ok x =>
    obtain ⟨T, r⟩ := x
    have h1 := (good_tx.bwd _ _ _ h).1
    simp only
    split
    · exact h1
    · exact ok_no
theorem litTx (cs : Array Value) (h : cs = aZ.cells.toArray) : cs.size = 38 := by rw [h, tyTx.arr]
theorem TL.below {w w' : World} {a : TxA} (h : TL w a) (hb : Below w.heap.size w w') : TL w' a := by
  have lb : ∀ {α : Type} {enc : α → List Value} {e : TypeId} {A : Option Addr} {c : Nat} {l : List α}, LB enc e w A c l → LB enc e w' A c l := by
    intro α enc e A c l h
    rcases h with h | ⟨b, h1, h2, h3⟩
    · exact .inl h
    · exact .inr ⟨b, h1, h2, below_blk hb h3 h3.lt⟩
  exact ⟨lb h.ins, lb h.outs, lb h.nulls, lb h.notes⟩
theorem TL.onlyX {w w' : World} {g : Nat} {a : TxA} (h : TL w a) {cs : Array Value} (ho : Only [g] w w') (hg : Blk w g 29 cs) : TL w' a := h.onlyT ho hg (by decide) (by decide) (by decide)
/-- what Read's answer is -/
def EndRd (w : World) (x : TxV × List UInt8 × Int) (e : Ending) (w' : World) : Prop :=
  (∃ a : TxA, a.T = x.1 ∧ e = .returned (.tuple #[.agg a.cells.toArray, .string ⟨x.2.1.toArray⟩, .int .i64 x.2.2]) ∧ TL w' a) ∧ Below w.heap.size w w'
end Go.Proofs.Ytimhophelecmjaa
/- tx.Decode. -/
namespace Go.Proofs.Ytimhophelecmjaa
open Go.RowKit
/-- what Decode's answer is -/
def EndD (w : World) (x : TxV × Int) (e : Ending) (w' : World) : Prop :=
  (∃ a : TxA, a.T = x.1 ∧ e = .returned (.tuple #[.agg a.cells.toArray, .int .i64 x.2]) ∧ TL w' a) ∧ Below w.heap.size w w'
end Go.Proofs.Ytimhophelecmjaa
