import Derived.WalkKit
import Derived.Deep.RegionHeld3
import Derived.Lib.Hide
import Derived.KernelRfl
import Derived.WalkSpells
import Derived.Below
import Derived.Laws.OwnMore
import Derived.Deep.AppendLies
import Derived.Deep.Draws
import Derived.Laws.Rows
import Derived.Deep.QuietTactic
import Derived.BigQuiet
import Derived.Deep.OwnRows
import Derived.OwnWalk
import Derived.Laws.AppendOwn
import Derived.Maps.AppendAt
import Derived.RegionTactic
import Derived.ChangeSame
import Derived.Great.BuildSlice
import Derived.Laws.IdiomStrings
import Derived.Lib.UnsafeStr
import Derived.Laws.CopyRow
import Derived.OpenShut
import Derived.ChangeKeysEq
import Derived.Laws.StructEq
import Derived.Lib.Bytealg
import Derived.Shelf.SlSortCmp.Insertion
import Derived.Sort.LotA
import Derived.Laws.CopyOwn
import Derived.Shelf.SlicesQ.Load
import Derived.Carry
import Derived.ChangeOld
import Derived.ChangeSlices
import Derived.Deep.Slices
import Derived.ArgAppend
import Derived.Lib.SmallJoins
import Derived.WalkLawsBesides
import Derived.Defers
import Derived.Recover
import Derived.Deep.RegionWith
import Derived.Shelf.Strings.Builder1
import Derived.Shelf.Strings.Builder2
import Derived.Test.YtnpmpeoojncjhaaGreatDoorProg
set_option maxRecDepth 100000
set_option maxHeartbeats 16000000
namespace Go.Proofs.YtnpmpeoojncjhaaGreatDoor
section
open Go.RowKit
theorem qh {p : Prop} (h : p) : Hid p := Lib.hid h
section
variable {P : Program} {md : Region.Mode} {ops : Array Oper} {Q : Exit → Act → World → Prop} {S : World → Prop}
theorem tk (i : Nat) (v : Value) {oi : Oper} {fuel : Nat} {listed : Array Bool} {a : Act} {w : World} (hi : ops[i]? = some oi) (hy : YieldsIf P ops S oi v a) (hS : S w) (h : wpAnyH P md ops Q S fuel (listed.setIfInBounds i true) (a.put oi.dst v) w)
 (hs : Region.noSelect ops = true := by kernel_rfl) (hf : Region.free md ops listed i = true := by kernel_rfl) (hr : (Region.ready md ops listed).contains i = true := by kernel_rfl)
 (hQ : ∀ c a w, Q (.panic c) (a.put oi.dst v) w → Q (.panic c) a w := by exact fun _ _ _ h => h) : wpAnyH P md ops Q S (fuel + 1) listed a w := wpAnyH_take hi hs hf hr hQ hy hS h
theorem tkp (i : Nat) (v : Value) {oi : Oper} {fuel : Nat} {listed : Array Bool} {a : Act} {w : World} (hi : ops[i]? = some oi) (hS : S w) (h : wpAnyH P md ops Q S fuel (listed.setIfInBounds i true) (a.put oi.dst v) w)
 (hy : YieldsIf P ops S oi v a := by exact Or.inl ⟨by rfl, fun W _ => by go_simp; try with_reducible rfl⟩)
 (hs : Region.noSelect ops = true := by kernel_rfl) (hf : Region.free md ops listed i = true := by kernel_rfl) (hr : (Region.ready md ops listed).contains i = true := by kernel_rfl)
 (hQ : ∀ c a w, Q (.panic c) (a.put oi.dst v) w → Q (.panic c) a w := by exact fun _ _ _ h => h) : wpAnyH P md ops Q S (fuel + 1) listed a w := wpAnyH_take hi hs hf hr hQ hy hS h
theorem tku (i : Nat) {oi : Oper} {fuel : Nat} {listed : Array Bool} {a : Act} {w : World} (hi : ops[i]? = some oi) (hS : S w) (h : wpAnyH P md ops Q S fuel (listed.setIfInBounds i true) (a.put oi.dst undef) w)
 (hy : YieldsIf P ops S oi undef a := by exact Or.inr ⟨by rfl, rfl⟩)
 (hs : Region.noSelect ops = true := by kernel_rfl) (hf : Region.free md ops listed i = true := by kernel_rfl) (hr : (Region.ready md ops listed).contains i = true := by kernel_rfl)
 (hQ : ∀ c a w, Q (.panic c) (a.put oi.dst undef) w → Q (.panic c) a w := by exact fun _ _ _ h => h) : wpAnyH P md ops Q S (fuel + 1) listed a w := wpAnyH_take hi hs hf hr hQ hy hS h
theorem rd (i : Nat) {o : Oper} {fuel : Nat} {listed : Array Bool} {a : Act} {w : World} (ho : ops[i]? = some o)
 (h : ∀ K' : Act → World → Prop, Shut (∀ a w, S w → (S w → wpAnyH P md ops Q S fuel (listed.setIfInBounds i true) a w) → K' a w) → if Region.wanted o (yielded ops a.tmps) = true then Oper.wp P o a w K' Q else K' (a.put o.dst undef) w)
 (hr : Region.ready md ops listed = [i] := by kernel_rfl) : wpAnyH P md ops Q S (fuel + 1) listed a w := wpAnyH_ready hr (by simp) (AllReadyH.cons ho h AllReadyH.nil)
theorem rd2 (i j : Nat) {o p : Oper} {fuel : Nat} {listed : Array Bool} {a : Act} {w : World} (ho : ops[i]? = some o)
 (h : ∀ K' : Act → World → Prop, Shut (∀ a w, S w → (S w → wpAnyH P md ops Q S fuel (listed.setIfInBounds i true) a w) → K' a w) → if Region.wanted o (yielded ops a.tmps) = true then Oper.wp P o a w K' Q else K' (a.put o.dst undef) w) (hp : ops[j]? = some p)
 (g : ∀ K' : Act → World → Prop, Shut (∀ a w, S w → (S w → wpAnyH P md ops Q S fuel (listed.setIfInBounds j true) a w) → K' a w) → if Region.wanted p (yielded ops a.tmps) = true then Oper.wp P p a w K' Q else K' (a.put p.dst undef) w)
 (hr : Region.ready md ops listed = [i, j] := by kernel_rfl) : wpAnyH P md ops Q S (fuel + 1) listed a w := wpAnyH_ready hr (by simp) (AllReadyH.cons ho h (AllReadyH.cons hp g AllReadyH.nil))
end
end
section
open Go.RowKit Go.WideShapes Go.ChangeShapes
theorem CJ (a : Addr) (n : Nat) : (a.add n).block = a.block := by unfold Addr.add; split <;> rfl
def Reads (w : World) (B size : Nat) (A : Option Addr) (n : Nat) (xs : List Value) : Prop :=
 xs.length = n * size ∧ (0 < n → ∃ ad, A = some ad ∧ ad.block < B ∧ ∀ j u, xs[j]? = some u → w.cell? (ad.add j) = some u)
section
variable {w w' : World} {B B' size n : Nat} {A : Option Addr} {xs : List Value}
theorem Reads.at_ {k : Nat} (h : Reads w B 1 A n xs) (hk : k < n) : ∃ ad u, A = some ad ∧ ad.block < B ∧ xs[k]? = some u ∧ w.cell? (ad.add k) = some u := by
 obtain ⟨ad, e, hb, hc⟩ := h.2 (by omega)
 have hl : k < xs.length := by have := h.1; omega
 exact ⟨ad, xs[k], e, hb, List.getElem?_eq_getElem hl, hc k _ (List.getElem?_eq_getElem hl)⟩
theorem Reads.keep (h : Reads w B size A n xs) (hk : ∀ p : Addr, p.block < B → w'.cell? p = w.cell? p) : Reads w' B size A n xs :=
 ⟨h.1, fun hn => by
  obtain ⟨ad, e, hb, hc⟩ := h.2 hn
  exact ⟨ad, e, hb, fun j u hu => (hk _ (by rw [CJ]; exact hb)).trans (hc j u hu)⟩⟩
theorem Reads.more (h : Reads w B size A n xs) (hB : B ≤ B') : Reads w B' size A n xs :=
 ⟨h.1, fun hn => by
  obtain ⟨ad, e, hb, hc⟩ := h.2 hn
  exact ⟨ad, e, by omega, hc⟩⟩
theorem Reads.below (h : Reads w B size A n xs) (hb : Below B w w') : Reads w' B size A n xs := h.keep fun _ hp => hb.cell hp
theorem Reads.drew (h : Reads w B size A n xs) : Reads w.drew B size A n xs := h
theorem Reads.alloc (h : Reads w B size A n xs) (hB : B ≤ w.heap.size) (o : Obj) : Reads (w.alloc o) B size A n xs := h.keep fun p hp => World.cell?_alloc_lt w o p (by omega)
theorem Reads.fO {base : Nat} {e : TypeId} {c : Nat} (h : w.ownsRow base e size (.slice A n c) n xs) : Reads w w.heap.size size A n xs := by
 refine ⟨h.1, fun hn => ?_⟩
 obtain ⟨g, cap, hv, _, hlt⟩ := h.form hn
 have hA : A = some ⟨g, 0, none⟩ := by injection hv
 subst hA
 exact ⟨_, rfl, hlt, h.cells (g := g) rfl⟩
end
def ax (w : World) (g : Nat) (t : TypeId) (cs : Array Value) : Prop := w.heap[g]? = some (.cells cs t (0, 0))
section
variable {w w' : World} {g : Nat} {t : TypeId} {cs : Array Value}
theorem ax.lt (h : ax w g t cs) : g < w.heap.size := by
 rcases Nat.lt_or_ge g w.heap.size with hlt | hge
 ·exact hlt
 ·unfold ax at h; rw [Array.getElem?_eq_none hge] at h; cases h
theorem ax.cell (h : ax w g t cs) (i : Nat) : w.cell? ⟨g, i, none⟩ = cs[i]? := cell_of_row w g i cs t (0, 0) h
theorem ax.frozen (h : ax w g t cs) (i : Nat) : w.frozen? ⟨g, i, none⟩ = false := by
 unfold ax at h
 simp [World.frozen?, h]
theorem ax.new (w : World) (t : TypeId) (cs : Array Value) : ax (w.alloc (.cells cs t)) w.heap.size t cs := heap_alloc_new w _
theorem ax.drew (h : ax w g t cs) : ax w.drew g t cs := h
theorem ax.drewN (h : ax w g t cs) (n : Nat) : ax (w.drewN n) g t cs := h
theorem ax.alloc (h : ax w g t cs) (o : Obj) : ax (w.alloc o) g t cs := (Below.heap_alloc w o g h.lt).trans h
theorem ax.zI (h : ax w g t cs) (i : Nat) (u : Value) : ax (w.setCell ⟨g, i, none⟩ u) g t (cs.setIfInBounds i u) := by
 unfold ax at h ⊢
 simp [World.setCell, Array.getElem?_modify, h]
theorem ax.far (h : ax w g t cs) {p : Addr} (hp : g ≠ p.block) (u : Value) : ax (w.setCell p u) g t cs := (Below.heap_setCell w p u g hp).trans h
theorem ax.grown {row : Option Nat} (h : ax w g t cs) (hb : w.grownBy w' row) (hg : some g ≠ row) : ax w' g t cs := (hb.block g h.lt hg).trans h
theorem ax.wU {g' : Nat} {t' : TypeId} {cs' : Array Value} (h : ax w g t cs) (h' : ax w g' t' cs') (hne : t ≠ t') : g ≠ g' := by
 rintro rfl
 unfold ax at h h'
 rw [h] at h'
 injection h' with h'
 injection h' with _ ht
 exact hne ht
theorem lJ {base : Nat} {e : TypeId} {size n : Nat} {v : Value} {xs : List Value} (h : w.ownsRow base e size v n xs) (hg : ax w g t cs) (hne : e ≠ t) : v.ownBlock ≠ some g := by
 rcases h.2 with ⟨rfl, _⟩ | ⟨g', cap, cur, rfl, _, hh, _⟩
 ·simp [Value.ownBlock]
 ·intro he
  have : g' = g := by simpa [Value.ownBlock] using he
  subst this
  exact ax.wU (t := e) hh hg hne rfl
end
section
variable {P : Program} (w : World)
theorem uf (base : Nat) (t ty e : TypeId) (i : TypeInfo) (size : Nat) (ht : P.underlying t = some (.slice e)) (hi : P.info? e = some i)
 (v : Value) (n : Nat) (xs : List Value) (hown : w.ownsRow base e size v n xs) (c : Nat) : (Builtin.append_ #[t, t] ty #[v, .slice none 0 c]).run P w = .ok v w := by
 rcases hown.2 with ⟨rfl, rfl⟩ | ⟨g, cap, cur, rfl, _, _, hnc, _⟩
 ·simp [Builtin.append_, run_underlying ht, sizeOf, typeInfo, hi, Builtin.lenOf, Builtin.firstCells]
 ·simp [Builtin.append_, run_underlying ht, sizeOf, typeInfo, hi, Builtin.lenOf, Builtin.firstCells, hnc, storeCells]
theorem pW (base : Nat) (t ty e : TypeId) (i : TypeInfo) (z : Value) (size bytes : Nat) (ht : P.underlying t = some (.slice e)) (hi : P.info? e = some i) (hz : i.zero = some z)
 (hsize : i.size = size) (hby : i.bytes = bytes) (hzs : z.cells.size = size) (hsz : 0 < size)
 (v : Value) (n : Nat) (xs : List Value) (hown : w.ownsRow base e size v n xs)
 (B : Nat) (A : Option Addr) (m c : Nat) (news : List Value) (hr : Reads w B size A m news) (h1 : ∀ u ∈ news, u.oneCell' = true)
 (h63 : n + m ≤ maxLen) (hbytes : (n + m) * bytes ≤ 140737488355328) (hbase : base ≤ w.heap.size) :
 ∃ v' w', (Builtin.append_ #[t, t] ty #[v, .slice A m c]).run P w = .ok v' w' ∧ w'.ownsRow base e size v' (n + m) (xs ++ news) ∧ w.grownBy w' v.ownBlock ∧
  (v'.ownBlock = v.ownBlock ∨ v'.ownBlock = some w.heap.size) := by
 rcases A with _ | ad
 ·have hm : m = 0 := by
   rcases Nat.eq_zero_or_pos m with h0 | h0
   ·exact h0
   ·obtain ⟨ad, h, _⟩ := hr.2 h0
    cases h
  subst hm
  have hn : news = [] := List.eq_nil_of_length_eq_zero (by simpa using hr.1)
  subst hn
  exact ⟨v, w, uf w base t ty e i size ht hi v n xs hown c, by simpa using hown, World.grownBy.refl w _, .inl rfl⟩
 ·have hcells : ∀ j u, news[j]? = some u → w.cell? (ad.add j) = some u := by
   intro j u hu
   rcases Nat.eq_zero_or_pos m with h0 | h0
   ·subst h0
    have hn : news = [] := List.eq_nil_of_length_eq_zero (by simpa using hr.1)
    subst hn
    simp at hu
   ·obtain ⟨UQ, h, _, hc⟩ := hr.2 h0
    injection h with h
    subst h
    exact hc j u hu
  obtain ⟨v', w', hrun, h2, h3, _, h5⟩ := run_append_own_at (P := P) w base t ty e i z size bytes ht hi hz hsize hby hzs hsz v n xs hown ad m c news hr.1 hcells h1 h63 hbytes hbase
  exact ⟨v', w', hrun, h2, h3, h5⟩
theorem rC {o : Oper} {a : Act} {K : Act → World → Prop} {Q : Exit → Act → World → Prop} (s x : Operand) (t : TypeId)
 (ho : o.op = .call { callee := .builtin .append, args := #[s, x], argTypes := #[t, t] })
 (base : Nat) (e : TypeId) (i : TypeInfo) (z : Value) (size bytes : Nat) (ht : P.underlying t = some (.slice e)) (hi : P.info? e = some i) (hz : i.zero = some z)
 (hsize : i.size = size) (hby : i.bytes = bytes) (hzs : z.cells.size = size) (hsz : 0 < size)
 (v : Value) (n : Nat) (xs : List Value) (hs : a.eval s = v) (hown : w.ownsRow base e size v n xs)
 (B : Nat) (A : Option Addr) (m c : Nat) (news : List Value) (hx : a.eval x = .slice A m c) (hr : Reads w B size A m news) (h1 : ∀ u ∈ news, u.oneCell' = true)
 (h63 : n + m ≤ maxLen) (hbytes : (n + m) * bytes ≤ 140737488355328) (hbase : base ≤ w.heap.size)
 (h : ∀ v' w', w'.ownsRow base e size v' (n + m) (xs ++ news) → w.grownBy w' v.ownBlock → (v'.ownBlock = v.ownBlock ∨ v'.ownBlock = some w.heap.size) → K (a.put o.dst v') w') : o.wp P a w K Q := by
 obtain ⟨v', w', hrun, h2, h3, h4⟩ := pW (P := P) w base t o.type e i z size bytes ht hi hz hsize hby hzs hsz v n xs hown B A m c news hr h1 h63 hbytes hbase
 unfold Oper.wp execOp
 simp only [ho, resolve, invoke, builtin, Sem.run_bind, Sem.run_pure, Result.andThen_ok, List.map_toArray, List.map_cons, List.map_nil, hs, hx, hrun]
 exact h v' w' h2 h3 h4
theorem dP {ops : Array Oper} {rest : List Oper} {o : Oper} {a : Act} {Q : Exit → Act → World → Prop} (hgd : o.guard = none) (s x : Operand) (t : TypeId)
 (ho : o.op = .call { callee := .builtin .append, args := #[s, x], argTypes := #[t, t] })
 (base : Nat) (e : TypeId) (i : TypeInfo) (z : Value) (size bytes : Nat) (ht : P.underlying t = some (.slice e)) (hi : P.info? e = some i) (hz : i.zero = some z)
 (hsize : i.size = size) (hby : i.bytes = bytes) (hzs : z.cells.size = size) (hsz : 0 < size)
 (v : Value) (n : Nat) (xs : List Value) (hs : a.eval s = v) (hown : w.ownsRow base e size v n xs)
 (B : Nat) (A : Option Addr) (m c : Nat) (news : List Value) (hx : a.eval x = .slice A m c) (hr : Reads w B size A m news) (h1 : ∀ u ∈ news, u.oneCell' = true)
 (h63 : n + m ≤ maxLen) (hbytes : (n + m) * bytes ≤ 140737488355328) (hbase : base ≤ w.heap.size)
 (h : ∀ v' w', w'.ownsRow base e size v' (n + m) (xs ++ news) → w.grownBy w' v.ownBlock → (v'.ownBlock = v.ownBlock ∨ v'.ownBlock = some w.heap.size) → wpList P ops Q rest (a.put o.dst v') w') : wpList P ops Q (o :: rest) a w :=
 wpList_plain hgd fun _ hK => rC w s x t ho base e i z size bytes ht hi hz hsize hby hzs hsz v n xs hs hown B A m c news hx hr h1 h63 hbytes hbase fun v' w' h2 h3 h4 => hK _ _ (h v' w' h2 h3 h4)
theorem pz {ops : Array Oper} {o : Oper} {a : Act} {K : Act → World → Prop} {Q : Exit → Act → World → Prop} {E : Prop} (hgd : o.guard = none) (s x : Operand) (t : TypeId)
 (ho : o.op = .call { callee := .builtin .append, args := #[s, x], argTypes := #[t, t] })
 (base : Nat) (e : TypeId) (i : TypeInfo) (z : Value) (size bytes : Nat) (ht : P.underlying t = some (.slice e)) (hi : P.info? e = some i) (hz : i.zero = some z)
 (hsize : i.size = size) (hby : i.bytes = bytes) (hzs : z.cells.size = size) (hsz : 0 < size)
 (v : Value) (n : Nat) (xs : List Value) (hs : a.eval s = v) (hown : w.ownsRow base e size v n xs)
 (B : Nat) (A : Option Addr) (m c : Nat) (news : List Value) (hx : a.eval x = .slice A m c) (hr : Reads w B size A m news) (h1 : ∀ u ∈ news, u.oneCell' = true)
 (h63 : n + m ≤ maxLen) (hbytes : (n + m) * bytes ≤ 140737488355328) (hbase : base ≤ w.heap.size)
 (h : ∀ v' w', w'.ownsRow base e size v' (n + m) (xs ++ news) → w.grownBy w' v.ownBlock → (v'.ownBlock = v.ownBlock ∨ v'.ownBlock = some w.heap.size) → K (a.put o.dst v') w') :
 if Region.wanted o (yielded ops a.tmps) = true then Oper.wp P o a w K Q else E := by
 have hw : Region.wanted o (yielded ops a.tmps) = true := by simp [Region.wanted, hgd]
 rw [if_pos hw]
 exact rC w s x t ho base e i z size bytes ht hi hz hsize hby hzs hsz v n xs hs hown B A m c news hx hr h1 h63 hbytes hbase h
end
theorem below_drewN {B : Nat} {a w : World} (h : Below B a w) (n : Nat) : Below B a (w.drewN n) := ⟨h.os, h.tape, h.output, h.size, h.block⟩
theorem rE {P : Program} (t e : TypeId) (i : TypeInfo) (z : Value) (ht : P.underlying t = some (.slice e)) (hi : P.info? e = some i) (hz : i.zero = some z)
 (kl kc : IntKind) (n c : Nat) (hnc : n ≤ c) (hbytes : i.bytes * c ≤ 281474976710656) (h63 : c ≤ 9223372036854775807) (w : World) :
 (Instr.makeSlice t (.int kl (n : Int)) (.int kc (c : Int))).run P w = .ok (.slice (some ⟨w.heap.size, 0, none⟩) n c) (w.alloc (.cells (madeCells z.cells (c * i.size)) e)) := by
 have hb : (i.bytes : Int) * (c : Int) ≤ 281474976710656 := by
  have h : ((i.bytes * c : Nat) : Int) ≤ 281474976710656 := by omega
  rwa [Int.natCast_mul] at h
 have hr := run_make (P := P) w t e i z ht hi hz kl kc n c (by omega) (by omega) hb (by omega)
 simp only [Int.toNat_natCast] at hr
 exact hr
end
section
open Go.RowKit
structure Only (L : List Nat) (w w' : World) : Prop where
 os : w'.os = w.os
 tape : w'.tape = w.tape
 output : w'.output = w.output
 size : w'.heap.size = w.heap.size
 block : ∀ k, k ∉ L → w'.heap[k]? = w.heap[k]?
section
variable {L : List Nat} {a w w' : World}
theorem Only.refl (L : List Nat) (w : World) : Only L w w := ⟨rfl, rfl, rfl, rfl, fun _ _ => rfl⟩
theorem Only.trans {b c : World} (h : Only L a b) (k : Only L b c) : Only L a c :=
 ⟨k.os.trans h.os, k.tape.trans h.tape, k.output.trans h.output, k.size.trans h.size, fun i hi => (k.block i hi).trans (h.block i hi)⟩
theorem Only.drew (h : Only L a w) : Only L a w.drew := ⟨h.os, h.tape, h.output, h.size, h.block⟩
theorem Only.drewN (h : Only L a w) (n : Nat) : Only L a (w.drewN n) := ⟨h.os, h.tape, h.output, h.size, h.block⟩
theorem Only.setCell (h : Only L a w) {p : Addr} (hp : p.block ∈ L) (u : Value) : Only L a (w.setCell p u) :=
 ⟨h.os, h.tape, h.output, by simpa [World.setCell] using h.size, fun k hk => (Below.heap_setCell w p u k (fun e => hk (e ▸ hp))).trans (h.block k hk)⟩
theorem Only.blk (h : Only L w w') {g : Nat} {t : TypeId} {cs : Array Value} (hb : ax w g t cs) (hg : g ∉ L) : ax w' g t cs := (h.block g hg).trans hb
theorem Only.below {B : Nat} (h : Only L w w') (hL : ∀ k ∈ L, B ≤ k) : Below B w w' :=
 ⟨h.os, h.tape, h.output, Nat.le_of_eq h.size.symm, fun k hk => h.block k (fun hm => by have := hL k hm; omega)⟩
theorem Only.cell (h : Only L w w') {p : Addr} (hp : p.block ∉ L) : w'.cell? p = w.cell? p := World.cell?_of_block (w := w) (h.block p.block hp)
end
theorem bg {w : World} {g : Nat} (t : TypeId) (cs : Array Value) (h : g = w.heap.size) : ax (w.alloc (.cells cs t)) g t cs := h ▸ ax.new w t cs
theorem Only.mono {L L' : List Nat} {w w' : World} (h : Only L w w') (hL : ∀ k ∈ L, k ∈ L') : Only L' w w' :=
 ⟨h.os, h.tape, h.output, h.size, fun k hk => h.block k (fun hm => hk (hL k hm))⟩
theorem cK {w : World} {g : Nat} {t : TypeId} {cs : Array Value} (h : ax w g t cs) (v : Array Value) : Only [g] w (w.setRow g v) ∧ ax (w.setRow g v) g t v := by
 unfold ax at h ⊢
 refine ⟨⟨rfl, rfl, rfl, by simp [World.setRow], fun k hk => ?_⟩, ?_⟩
 ·simp only [World.setRow, Array.getElem?_modify]
  rw [if_neg (fun e => hk (by simp [e]))]
 ·simp [World.setRow, Array.getElem?_modify, h]
theorem aF {P : Program} {ops : Array Oper} {rest : List Oper} {o : Oper} {a : Act} {w : World} {Q : Exit → Act → World → Prop} (hgd : o.guard = none) (ty : TypeId) (x y : Operand) (ho : o.op = .store ty x y)
 (hd : o.dst = none) (g : Nat) (v : Value) (hx : a.eval x = .pointer (some ⟨g, 0, none⟩)) (hy : a.eval y = v) (h1 : v.oneCell' = true)
 (t : TypeId) (old : Value) (hg : ax w g t #[old]) (hi : (P.info? ty).map (·.size) = some 1)
 (h : ∀ w', Only [g] w w' → ax w' g t #[v] → wpList P ops Q rest a w') : wpList P ops Q (o :: rest) a w :=
 wpList_store_oneTo hgd ty x y ho hd g v hx hy h1 t old hg hi (h _ (cK hg _).1 (cK hg _).2)
theorem jN {w : World} {g : Nat} {t : TypeId} {cs : Array Value} (h : ax w g t cs) (i : Nat) (v : Value) : Only [g] w (w.setCell ⟨g, i, none⟩ v) ∧ ax (w.setCell ⟨g, i, none⟩ v) g t (cs.setIfInBounds i v) :=
 ⟨(Only.refl _ _).setCell (by simp) _, h.zI i v⟩
theorem aJ {P : Program} {ops : Array Oper} {rest : List Oper} {o : Oper} {a : Act} {w : World} {Q : Exit → Act → World → Prop} (hgd : o.guard = none) (ty : TypeId) (x y : Operand) (ho : o.op = .store ty x y)
 (hd : o.dst = none) (g i : Nat) (v : Value) (hx : a.eval x = .pointer (some ⟨g, i, none⟩)) (hy : a.eval y = v) (h1 : v.oneCell' = true)
 (t : TypeId) (cs : Array Value) (hg : ax w g t cs) (hi : i < cs.size) (hs : (P.info? ty).map (·.size) = some 1)
 (h : ∀ w', Only [g] w w' → ax w' g t (cs.setIfInBounds i v) → wpList P ops Q rest a w') : wpList P ops Q (o :: rest) a w :=
 wpList_plain hgd fun _ hK => by
  subst hy
  have hrun : (storeVar ty ⟨g, i, none⟩ (a.eval y)).run P w = .ok () (w.setCell ⟨g, i, none⟩ (a.eval y)) := by
   have hcell : w.cell? ⟨g, i, none⟩ = some cs[i] := (hg.cell i).trans (Array.getElem?_eq_getElem hi)
   have hc : (a.eval y).cells = #[a.eval y] := by generalize a.eval y = v at h1; cases v <;> first | rfl | cases h1
   cases hq : P.info? ty with
   | none => simp [hq] at hs
   | some inf =>
    have hz : inf.size = 1 := by simpa [hq] using hs
    have hadd : (⟨g, i, none⟩ : Addr).add 0 = ⟨g, i, none⟩ := by simp [Addr.add]
    simp [storeVar, sizeOf, typeInfo, hq, hc, hz, storeCells, hadd, run_store P w _ _ _ h1, hcell, hg.frozen i]
  unfold Oper.wp execOp
  simp only [ho, hx, Instr.storeAt, Instr.sureAddr, Sem.run_bind, Sem.run_pure, Result.andThen_ok, hrun]
  rw [Oper.upon_skip, hd]
  exact hK _ _ (h _ (jN hg i _).1 (jN hg i _).2)
theorem ag {P : Program} {ops : Array Oper} {rest : List Oper} {a : Act} {w : World} {Q : Exit → Act → World → Prop} {ty kG : TypeId} {pos : String} {after : Array Edge} (i j : Nat)
 (h : wpList P ops Q ({ dst := none, op := .store ty (.tmp i) (.tmp j), type := kG, pos := pos, after := after, guard := none } :: rest) a w) :
 wpList P ops Q ({ dst := none, op := .store ty (.tmp i) (.tmp j), type := kG, pos := pos, after := after, guard := none } :: rest) a w := h
theorem az {P : Program} {ops : Array Oper} {rest : List Oper} {a : Act} {w : World} {Q : Exit → Act → World → Prop} {dst : Option Tmp} {ty kG : TypeId} {pos : String} {after : Array Edge} (i : Nat)
 (h : wpList P ops Q ({ dst := dst, op := .load ty (.tmp i), type := kG, pos := pos, after := after, guard := none } :: rest) a w) :
 wpList P ops Q ({ dst := dst, op := .load ty (.tmp i), type := kG, pos := pos, after := after, guard := none } :: rest) a w := h
theorem aG {P : Program} {ops : Array Oper} {rest : List Oper} {o : Oper} {a : Act} {w : World} {Q : Exit → Act → World → Prop} (hgd : o.guard = none) (ty : TypeId) (x y : Operand) (ho : o.op = .store ty x y)
 (hd : o.dst = none) (g : Nat) (cells : Array Value) (hx : a.eval x = .pointer (some ⟨g, 0, none⟩)) (hy : a.eval y = .agg cells)
 (t : TypeId) (old : Array Value) (hg : ax w g t old) (hi : (P.info? ty).map (·.size) = some cells.size)
 (hold : old.size = cells.size) (h1 : cells.all (·.oneCell') = true)
 (h : ∀ w', Only [g] w w' → ax w' g t cells → wpList P ops Q rest a w') : wpList P ops Q (o :: rest) a w :=
 wpList_store_rowTo hgd ty x y ho hd g cells hx hy t old hg hi hold h1 (h _ (cK hg _).1 (cK hg _).2)
theorem mX {P : Program} (t e : TypeId) (n : Nat) (cs : Array Value) (k kk : IntKind) (i : Nat) (v : Value) (h : P.underlying t = some (.array n e)) (hu : P.underlying e = some (.int kk))
 (hs : (P.info? e).map (·.size) = some 1) (hi : i < n) (hc : cs[i]? = some v) (w : World) : (Instr.index t (.agg cs) (.int k (i : Int))).run P w = .ok v w := by
 cases hq : P.info? e with
 | none => simp [hq] at hs
 | some inf =>
  have hz : inf.size = 1 := by simpa [hq] using hs
  simp [Instr.index, run_underlying h, asIntOf, part, isAgg, run_underlying hu, sizeOf, typeInfo, hq, hz, hi, hc]
theorem aa {B : Nat} {w w' : World} (h : Below B w w') {g : Nat} {t : TypeId} {cs : Array Value} (hb : ax w g t cs) (hg : g < B) : ax w' g t cs := (h.block g hg).trans hb
end
section
open Go.RowKit
theorem iG {w : World} {base : Nat} {e : TypeId} {size n : Nat} {v : Value} {xs : List Value} (h : w.ownsRow base e size v n xs) : ∀ k, v.ownBlock = some k → base ≤ k := by
 rcases h.2 with ⟨rfl, _⟩ | ⟨g, cap, cur, rfl, hb, _⟩
 ·intro k hk; simp [Value.ownBlock] at hk
 ·intro k hk; simp [Value.ownBlock] at hk; omega
theorem xG {P : Program} {ops : Array Oper} {rest : List Oper} {o : Oper} {a : Act} {w : World} {Q : Exit → Act → World → Prop} (hgd : o.guard = none) (s x : Operand) (t : TypeId)
 (ho : o.op = .call { callee := .builtin .append, args := #[s, x], argTypes := #[t, t] })
 (base : Nat) (e : TypeId) (z : Value) (bytes : Nat) (ht : P.underlying t = some (.slice e)) (hi : (P.info? e).map (fun i => (i.zero, i.size, i.bytes)) = some (some z, 1, bytes))
 (hzs : z.cells.size = 1) (hby : bytes ≤ 64) (v : Value) (n : Nat) (xs : List Value) (hs : a.eval s = v) (hown : w.ownsRow base e 1 v n xs)
 (g c : Nat) (u : Value) (hx : a.eval x = .slice (some ⟨g, 0, none⟩) 1 c) (hb : ax w g e #[u]) (h1 : u.oneCell' = true) (hn : n + 1 ≤ 1000000000) (hbase : base ≤ w.heap.size)
 (h : ∀ v' w', w'.ownsRow base e 1 v' (n + 1) (xs ++ [u]) → Below base w w' → wpList P ops Q rest (a.put o.dst v') w') : wpList P ops Q (o :: rest) a w := by
 obtain ⟨i, hi0, hz0, hz1, hz2⟩ := info_parts hi
 refine wpList_append_own w hgd s x t ho base e i z 1 bytes ht hi0 hz0 hz1 hz2 hzs (by omega) v n xs hs hown ⟨g, 0, none⟩ 1 c [u] hx rfl ?_ ?_ ?_ ?_ hbase ?_
 ·intro j y hj
  match j, hj with
  | 0, hj => simp at hj; subst hj; simpa [Addr.add] using hb.cell 0
 ·intro y hy; simp at hy; subst hy; exact h1
 ·unfold maxLen; omega
 ·have : (n + 1) * bytes ≤ 1000000000 * 64 := Nat.mul_le_mul hn hby
  omega
 ·intro v' w' h2 h3 _
  exact h v' w' h2 ((Below.refl _ _).grown h3 hbase (iG hown))
end
section
open Go.RowKit
theorem ek {w : World} {base : Nat} {e : TypeId} {size n : Nat} {v : Value} {xs : List Value} (h : w.ownsRow base e size v n xs) : ∃ A c, v = .slice A n c := by
 rcases h.2 with ⟨rfl, rfl⟩ | ⟨g, cap, cur, rfl, _⟩
 ·exact ⟨none, 0, rfl⟩
 ·exact ⟨some ⟨g, 0, none⟩, cap, rfl⟩
theorem wN {P : Program} {ops : Array Oper} {rest : List Oper} {o : Oper} {a : Act} {w : World} {Q : Exit → Act → World → Prop} (hgd : o.guard = none) (s x : Operand) (t : TypeId)
 (ho : o.op = .call { callee := .builtin .append, args := #[s, x], argTypes := #[t, t] })
 (base : Nat) (e : TypeId) (z : Value) (bytes : Nat) (ht : P.underlying t = some (.slice e)) (hi : (P.info? e).map (fun i => (i.zero, i.size, i.bytes)) = some (some z, 1, bytes))
 (hzs : z.cells.size = 1) (hby : bytes ≤ 64) (v : Value) (n : Nat) (xs : List Value) (hs : a.eval s = v) (hown : w.ownsRow base e 1 v n xs)
 (g c : Nat) (u : Value) (hx : a.eval x = .slice (some ⟨g, 0, none⟩) 1 c) (hb : ax w g e #[u]) (h1 : u.oneCell' = true) (hn : n + 1 ≤ 1000000000) (hbase : base ≤ w.heap.size)
 (h : ∀ v' w', w'.ownsRow base e 1 v' (n + 1) (xs ++ [u]) → w.grownBy w' v.ownBlock → (v'.ownBlock = v.ownBlock ∨ v'.ownBlock = some w.heap.size) → wpList P ops Q rest (a.put o.dst v') w') : wpList P ops Q (o :: rest) a w := by
 obtain ⟨i, hi0, hz0, hz1, hz2⟩ := info_parts hi
 refine dP w hgd s x t ho base e i z 1 bytes ht hi0 hz0 hz1 hz2 hzs (by omega) v n xs hs hown (g + 1) (some ⟨g, 0, none⟩) 1 c [u] hx ?_ ?_ ?_ ?_ hbase h
 ·exact ⟨rfl, fun _ => ⟨_, rfl, by simp, fun j y hj => by
   match j, hj with
   | 0, hj => simp at hj; subst hj; simpa [Addr.add] using hb.cell 0⟩⟩
 ·intro y hy; simp at hy; subst hy; exact h1
 ·unfold maxLen; omega
 ·have : (n + 1) * bytes ≤ 1000000000 * 64 := Nat.mul_le_mul hn hby
  omega
theorem mU {P : Program} {ops : Array Oper} {o : Oper} {a : Act} {w : World} {K : Act → World → Prop} {Q : Exit → Act → World → Prop} {E : Prop} (hgd : o.guard = none) (s x : Operand) (t : TypeId)
 (ho : o.op = .call { callee := .builtin .append, args := #[s, x], argTypes := #[t, t] })
 (base : Nat) (e : TypeId) (z : Value) (bytes : Nat) (ht : P.underlying t = some (.slice e)) (hi : (P.info? e).map (fun i => (i.zero, i.size, i.bytes)) = some (some z, 1, bytes))
 (hzs : z.cells.size = 1) (hby : bytes ≤ 64) (v : Value) (n : Nat) (xs : List Value) (hs : a.eval s = v) (hown : w.ownsRow base e 1 v n xs)
 (g c : Nat) (u : Value) (hx : a.eval x = .slice (some ⟨g, 0, none⟩) 1 c) (hb : ax w g e #[u]) (h1 : u.oneCell' = true) (hn : n + 1 ≤ 1000000000) (hbase : base ≤ w.heap.size)
 (h : ∀ v' w', w'.ownsRow base e 1 v' (n + 1) (xs ++ [u]) → w.grownBy w' v.ownBlock → (v'.ownBlock = v.ownBlock ∨ v'.ownBlock = some w.heap.size) → K (a.put o.dst v') w') :
 if Region.wanted o (yielded ops a.tmps) = true then Oper.wp P o a w K Q else E := by
 obtain ⟨i, hi0, hz0, hz1, hz2⟩ := info_parts hi
 refine pz w hgd s x t ho base e i z 1 bytes ht hi0 hz0 hz1 hz2 hzs (by omega) v n xs hs hown (g + 1) (some ⟨g, 0, none⟩) 1 c [u] hx ?_ ?_ ?_ ?_ hbase h
 ·exact ⟨rfl, fun _ => ⟨_, rfl, by simp, fun j y hj => by
   match j, hj with
   | 0, hj => simp at hj; subst hj; simpa [Addr.add] using hb.cell 0⟩⟩
 ·intro y hy; simp at hy; subst hy; exact h1
 ·unfold maxLen; omega
 ·have : (n + 1) * bytes ≤ 1000000000 * 64 := Nat.mul_le_mul hn hby
  omega
theorem wD {B : Nat} {w w' : World} {v : Value} {e : TypeId} {size n : Nat} {xs : List Value} (hg : w.grownBy w' v.ownBlock) (hown : w.ownsRow B e size v n xs) (hB : B ≤ w.heap.size) : Below B w w' :=
 (Below.refl _ _).grown hg hB (iG hown)
end
section
open Go.RowKit
def ay (l : List UInt8) : Array Value := (l.map fun b => Value.int .u8 (b.toNat : Int)).toArray
theorem aO (l : List UInt8) : (ay l).size = l.length := by simp [ay]
theorem gT (l : List UInt8) (i : Nat) (h : i < l.length) : (ay l)[i]? = some (.int .u8 (l[i].toNat : Int)) := by simp [ay, h]
theorem sP (l : List UInt8) (k : Nat) (b : UInt8) : (ay l).setIfInBounds k (.int .u8 (b.toNat : Int)) = ay (l.set k b) := by
 simp [ay, List.map_set]
theorem dK (l : List UInt8) : (ay l).all (·.oneCell') = true := by
 rw [Array.all_eq_true_iff_forall_mem]; intro x hx; simp only [ay, List.mem_toArray, List.mem_map] at hx; obtain ⟨_, _, rfl⟩ := hx; rfl
def tab {α : Type} (n : Nat) (f : Nat → α) : List α := (List.range n).map f
theorem iJ {α : Type} (n : Nat) (f : Nat → α) : (tab n f).length = n := by simp [tab]
theorem qD {α : Type} (n : Nat) (f : Nat → α) (i : Nat) (h : i < (tab n f).length) : (tab n f)[i] = f i := by simp [tab]
theorem xk {α : Type} (n : Nat) (f g : Nat → α) (k : Nat) (b : α) (h : ∀ i, i < n → g i = if i = k then b else f i) : (tab n f).set k b = tab n g := by
 apply List.ext_getElem
 ·simp [tab]
 ·intro i h1 h2
  have hi : i < n := by simpa [tab] using h2
  rw [List.getElem_set, qD, qD, h i hi]
  by_cases e : k = i
  ·subst e; simp
  ·simp [e, Ne.symm e]
theorem qE {α : Type} (n : Nat) (f g : Nat → α) (h : ∀ i, i < n → f i = g i) : tab n f = tab n g := by
 unfold tab; apply List.map_congr_left; intro a ha; exact h a (by simpa using ha)
end
section
open Go.RowKit
theorem PZ {w : World} {base : Nat} {v : Value} {l : List UInt8} (h : w.ownsRow base 5 1 v l.length (Lib.byteCells l)) :
 (convert 84 9 v).run Tryz.prog w = .ok (.string ⟨l.toArray⟩) w := by
 have h' := h
 rcases h.2 with ⟨rfl, hn⟩ | ⟨g, cap, cur, rfl, hb, hh, r⟩
 ·have hl : l = [] := List.eq_nil_of_length_eq_zero hn
  subst hl
  rw [run_convert_bytes_string w _ _ 5 none 0 0 Tryz.underlying84 Tryz.underlying5 Tryz.underlying9]
  rfl
 ·refine run_convert_bytes_back (P := Tryz.prog) w 84 9 5 ⟨g, 0, none⟩ cap l Tryz.underlying84 Tryz.underlying5 Tryz.underlying9 (fun j hj => ?_)
  rw [show (⟨g, 0, none⟩ : Addr).add j = ⟨g, j, none⟩ by unfold Addr.add; split <;> simp_all, h'.cellAt j (by omega)]
  simp [Lib.byteCells, hj]
end
section
open Go.RowKit
theorem iq {P : Program} {fn : Func} {p t1 t2 : Tmp} {ty : TypeId} (h : fn.results = #[.cell p ty, .tmp t1, .tmp t2]) (tmps : Array Value) (w : World) (g : Nat) (t : TypeId) (cs : Array Value) (fr : Nat × Nat) (d : TypeDesc)
 (hp : tmps.getD p undef = .pointer (some ⟨g, 0, none⟩)) (hg : w.heap[g]? = some (.cells cs t fr))
 (hu : P.underlying ty = some d) (hd : (match d with | .struct _ | .array _ _ => true | _ => false) = true) (hi : (P.info? ty).map (·.size) = some cs.size) :
 (results fn tmps).run P w = .ok (.tuple #[.agg cs, tmps.getD t1 undef, tmps.getD t2 undef]) w := by
 have hp' : tmps[p]?.getD undef = .pointer (some ⟨g, 0, none⟩) := by simpa using hp
 simp [results, h, hp', asAddr, run_loadVar_row w g t ty cs fr d hg hu hd hi]
theorem zJ {P : Program} (w : World) (dT sT ty elem : TypeId) (g n : Nat) (s : ByteArray) (l : List UInt8) (t : TypeId)
 (hu : P.underlying dT = some (.slice elem)) (hs : (P.info? elem).map (·.size) = some 1) (hg : ax w g t (ay l)) (hn : l.length = n) (hle : n ≤ s.size) :
 (Builtin.copy_ #[dT, sT] ty #[.slice (some ⟨g, 0, none⟩) n n, .string s]).run P w = .ok (goInt n) (w.setRow g (ay (s.data.toList.take n))) := by
 have hl : (ay (s.data.toList.take n)).toList.length = n := by
  rw [Array.length_toList, aO, List.length_take, Array.length_toList]; exact Nat.min_eq_left hle
 have hone : ∀ v ∈ (ay (s.data.toList.take n)).toList, v.oneCell' = true := by
  intro v hv
  simp only [ay, List.mem_map] at hv
  obtain ⟨b, _, rfl⟩ := hv
  rfl
 have hst := run_storeCells_at (P := P) g 0 t (ay (s.data.toList.take n)).toList 0 (ay l) w hg (by rw [hl, aO, hn]; omega) hone
 rw [hl] at hst
 simp only [Nat.add_zero, Nat.zero_add, List.take_zero, List.nil_append] at hst
 rw [List.drop_of_length_le (by rw [Array.length_toList, aO, hn]; omega), List.append_nil] at hst
 have hmin : Nat.min s.size n = n := Nat.min_eq_right hle
 have htk : List.take n (List.map (fun b : UInt8 => Value.int IntKind.u8 (b.toNat : Int)) s.data.toList) = (ay (s.data.toList.take n)).toList := by
  rw [← List.map_take]; rfl
 cases hq : P.info? elem with
 | none => simp [hq] at hs
 | some i =>
  simp [Builtin.copy_, run_underlying hu, Builtin.lenOf, Builtin.firstCells, sizeOf, typeInfo, hq, hmin]
  rw [htk, hst]
  simp [Result.andThen]
theorem ve {P : Program} {ops : Array Oper} {rest : List Oper} {o : Oper} {a : Act} {w : World} {Q : Exit → Act → World → Prop} (hgd : o.guard = none) (x y : Operand) (dT sT : TypeId)
 (ho : o.op = .call { callee := .builtin .copy, args := #[x, y], argTypes := #[dT, sT] })
 (elem : TypeId) (g n : Nat) (s : ByteArray) (l : List UInt8) (t : TypeId)
 (hu : P.underlying dT = some (.slice elem)) (hs : (P.info? elem).map (·.size) = some 1) (hg : ax w g t (ay l)) (hn : l.length = n) (hle : n ≤ s.size)
 (hx : a.eval x = .slice (some ⟨g, 0, none⟩) n n) (hy : a.eval y = .string s)
 (h : ∀ w', Only [g] w w' → ax w' g t (ay (s.data.toList.take n)) → wpList P ops Q rest (a.put o.dst (goInt n)) w') : wpList P ops Q (o :: rest) a w :=
 wpList_plain hgd fun _ hK => by
  have hrun := zJ (P := P) w dT sT o.type elem g n s l t hu hs hg hn hle
  unfold Oper.wp execOp
  simp only [ho, resolve, invoke, builtin, Sem.run_bind, Sem.run_pure, Result.andThen_ok, List.map_toArray, List.map_cons, List.map_nil, hx, hy, hrun]
  exact hK _ _ (h _ (cK hg _).1 (cK hg _).2)
theorem TQ {P : Program} {ops : Array Oper} {rest : List Oper} {a : Act} {w : World} {Q : Exit → Act → World → Prop} {dst : Option Tmp} {args : Array Operand} {ts : Array TypeId} {kG : TypeId} {pos : String} {after : Array Edge}
 (h : wpList P ops Q ({ dst := dst, op := .call { callee := .builtin .copy, args := args, argTypes := ts }, type := kG, pos := pos, after := after, guard := none } :: rest) a w) :
 wpList P ops Q ({ dst := dst, op := .call { callee := .builtin .copy, args := args, argTypes := ts }, type := kG, pos := pos, after := after, guard := none } :: rest) a w := h
end
section
open Go.RowKit
section
variable {P : Program} {ops : Array Oper} {rest : List Oper} {o : Oper} {a : Act} {w : World} {Q : Exit → Act → World → Prop}
theorem iZ (hw : Region.wanted o (yielded ops a.tmps) = true) (ty yt : TypeId) (x y : Operand) (ho : o.op = .binOp .eql ty x y yt)
 (cx cy : Array Value) (hx : a.eval x = .agg cx) (hy : a.eval y = .agg cy) (hg : P.eqGuardType P.depth ty = false) (r : Bool) (he : ∀ V, (Op.equal ty (.agg cx) (.agg cy)).run P V = .ok r V)
 (h : wpList P ops Q rest (a.put o.dst (.bool r)) w) : wpList P ops Q (o :: rest) a w :=
 wpList_step fun K hK => by
  rw [if_pos hw]
  have h' := hK _ _ h
  have hrun : (execOp a.eval o).run P w = .ok (.value (.bool r)) w := by
   unfold execOp
   simp only [ho, hx, hy]
   unfold eqGuard binOp
   simp [go_sem, hg, he]
  unfold Oper.wp
  rw [hrun, Oper.upon_value]
  exact h'
theorem fq {dst : Option Tmp} {ty kG : TypeId} {pos : String} {after : Array Edge} {gd : Option (Nat × Bool)} (i : Nat)
 (h : wpList P ops Q ({ dst := dst, op := .load ty (.tmp i), type := kG, pos := pos, after := after, guard := gd } :: rest) a w) :
 wpList P ops Q ({ dst := dst, op := .load ty (.tmp i), type := kG, pos := pos, after := after, guard := gd } :: rest) a w := h
theorem xB {dst : Option Tmp} {ty yt kG : TypeId} {pos : String} {after : Array Edge} {gd : Option (Nat × Bool)} (i j : Nat)
 (h : wpList P ops Q ({ dst := dst, op := .binOp .eql ty (.tmp i) (.tmp j) yt, type := kG, pos := pos, after := after, guard := gd } :: rest) a w) :
 wpList P ops Q ({ dst := dst, op := .binOp .eql ty (.tmp i) (.tmp j) yt, type := kG, pos := pos, after := after, guard := gd } :: rest) a w := h
end
end
section
open Go.RowKit
section
variable {P : Program} {ops : Array Oper} {S : World → Prop} {a : Act}
theorem eU {o : Oper} (hw : Region.wanted o (yielded ops a.tmps) = true) (ty : TypeId) (x : Operand) (ho : o.op = .load ty x)
 (g : Nat) (hx : a.eval x = .pointer (some ⟨g, 0, none⟩)) (t : TypeId) (cs : Array Value) (d : TypeDesc) (hg : ∀ w, S w → ax w g t cs)
 (hu : P.underlying ty = some d) (hd : (match d with | .struct _ | .array _ _ => true | _ => false) = true) (hi : (P.info? ty).map (·.size) = some cs.size) : YieldsIf P ops S o (.agg cs) a :=
 .inl ⟨hw, fun w hS => by
  unfold execOp
  simp only [ho, hx, Instr.loadAt, Instr.sureAddr, Sem.run_bind, Sem.run_pure, Result.andThen_ok, run_loadVar_row w g t ty cs (0, 0) d (hg w hS) hu hd hi]⟩
theorem iD {o : Oper} {w : World} {K : Act → World → Prop} {Q : Exit → Act → World → Prop} {E : Prop} (hgd : o.guard = none) (ty : TypeId) (x y : Operand) (ho : o.op = .store ty x y)
 (hd : o.dst = none) (g : Nat) (cells : Array Value) (hx : a.eval x = .pointer (some ⟨g, 0, none⟩)) (hy : a.eval y = .agg cells)
 (t : TypeId) (old : Array Value) (hg : ax w g t old) (hi : (P.info? ty).map (·.size) = some cells.size)
 (hold : old.size = cells.size) (h1 : cells.all (·.oneCell') = true)
 (h : ∀ w', Only [g] w w' → ax w' g t cells → K a w') : if Region.wanted o (yielded ops a.tmps) = true then Oper.wp P o a w K Q else E := by
 have hw : Region.wanted o (yielded ops a.tmps) = true := by simp [Region.wanted, hgd]
 rw [if_pos hw]
 have hrun := run_storeVar_row (P := P) w g t ty old cells hg hi hold h1
 unfold Oper.wp execOp
 simp only [ho, hx, hy, Instr.storeAt, Instr.sureAddr, Sem.run_bind, Sem.run_pure, Result.andThen_ok, hrun]
 rw [Oper.upon_skip, hd]
 exact h _ (cK hg _).1 (cK hg _).2
end
end
section
open Go.RowKit Go.ChangeShapes
end
section
open Go.RowKit
section
variable {P : Program} (w : World)
theorem Qh (a b : UInt8) : ((a.toNat : Int) == (b.toNat : Int)) = (a == b) := by
 rw [Bool.eq_iff_iff, beq_iff_eq, beq_iff_eq]
 exact ⟨fun h => UInt8.toNat_inj.1 (by omega), fun h => by rw [h]⟩
theorem jm (d : Nat) {e : TypeId} (hu : P.underlying e = some (.int .u8)) (l m : List UInt8) : ∀ is : List Nat, (∀ j ∈ is, j < l.length ∧ j < m.length) →
 (Op.eqItems (d + 1) e 1 (ay l) (ay m) is).run P w = .ok (is.all fun j => l.getD j 0 == m.getD j 0) w
 | [], _ => by simp [Op.eqItems]
 | i :: is, h => by
  have hi := h i (by simp)
  have he : P.plainKey e = true := by simp [Program.plainKey, hu]
  have p1 := run_part_plain (P := P) w he (xs := ay l) (off := i * 1) (v := .int .u8 (l[i]'hi.1).toNat) (by rw [Nat.mul_one]; exact gT l i hi.1)
  have p2 := run_part_plain (P := P) w he (xs := ay m) (off := i * 1) (v := .int .u8 (m[i]'hi.2).toNat) (by rw [Nat.mul_one]; exact gT m i hi.2)
  have ih := jm d hu l m is (fun j hj => h j (by simp [hj]))
  have e1 : l.getD i 0 = l[i]'hi.1 := by simp [List.getD_eq_getElem?_getD, hi.1]
  have e2 : m.getD i 0 = m[i]'hi.2 := by simp [List.getD_eq_getElem?_getD, hi.2]
  simp only [Op.eqItems, Sem.run_bind, p1, p2, Result.andThen_ok, run_equalIn_int w d e .u8 .u8 _ _ hu, Qh, List.all_cons, e1, e2]
  cases hb : (l[i]'hi.1 == m[i]'hi.2)
  ·simp
  ·simpa using ih
theorem all_range_eq (l m : List UInt8) (h : l.length = m.length) : ((List.range l.length).all fun j => l.getD j 0 == m.getD j 0) = decide (l = m) := by
 rw [Bool.eq_iff_iff, List.all_eq_true, decide_eq_true_iff]
 constructor
 ·intro ha
  apply List.ext_getElem h
  intro i h1 h2
  have := ha i (by simpa using h1)
  simpa [List.getD_eq_getElem?_getD, h1, h2] using this
 ·rintro rfl j _
  simp
theorem Cb {t e : TypeId} {n : Nat} (ht : P.underlying t = some (.array n e)) (hu : P.underlying e = some (.int .u8)) (hc : P.cellsOf e = 1) (l m : List UInt8) (hl : l.length = n) (hm : m.length = n) :
 (Op.equalIn 10000 t (.agg (ay l)) (.agg (ay m))).run P w = .ok (decide (l = m)) w := by
 obtain ⟨i, hi⟩ := info_of_underlying hu
 rw [show 10000 = 9999 + 1 from rfl, run_equalIn_array w 9999 _ _ ht hi, hc, jm w 9998 hu l m _ (fun j hj => by rw [List.mem_range] at hj; omega), ← hl, all_range_eq l m (by omega)]
end
end
section
open Go.RowKit
abbrev aS := {l : List UInt8 // l.length = 32}
instance : Inhabited aS := ⟨⟨List.replicate 32 0, by simp⟩⟩
def ak (x : aS) : List Value := (ay x.1).toList
theorem aC (x : aS) : (ak x).length = 32 := by
 show (ay x.1).toList.length = 32
 rw [Array.length_toList, aO]; exact x.2
theorem dQ (x : aS) : (ak x).toArray = ay x.1 := by simp [ak]
theorem fI (x : aS) : ∀ v ∈ ak x, v.oneCell' = true := by
 intro v hv
 simp only [ak, ay, List.mem_map] at hv
 obtain ⟨_, _, rfl⟩ := hv
 rfl
def Qd (a b : aS) : Int := Lib.compareBytes a.1 b.1
def LV (a b : aS) : Bool := decide (Qd a b < 0)
theorem Jb : ∀ l : List UInt8, Lib.compareBytes l l = 0
 | [] => rfl
 | a :: l => by unfold Lib.compareBytes; rw [if_neg (UInt8.lt_irrefl a), if_neg (UInt8.lt_irrefl a)]; exact Jb l
theorem Jc : ∀ l m : List UInt8, Lib.compareBytes m l = - Lib.compareBytes l m
 | [], [] => rfl
 | [], _ :: _ => rfl
 | _ :: _, [] => rfl
 | a :: l, b :: m => by
  unfold Lib.compareBytes
  by_cases h1 : a < b
  ·have h2 : ¬ b < a := UInt8.not_lt.2 (UInt8.le_of_lt h1)
   simp [h1, h2]
  ·by_cases h2 : b < a
   ·simp [h1, h2]
   ·simp only [h1, h2, if_false]; exact Jc l m
theorem UO : ∀ l m : List UInt8, Lib.compareBytes l m = 0 → l = m
 | [], [], _ => rfl
 | [], _ :: _, h => by simp [Lib.compareBytes] at h
 | _ :: _, [], h => by simp [Lib.compareBytes] at h
 | a :: l, b :: m, h => by
  unfold Lib.compareBytes at h
  by_cases h1 : a < b
  ·simp [h1] at h
  ·by_cases h2 : b < a
   ·simp [h1, h2] at h
   ·simp only [h1, h2, if_false] at h
    have e : a = b := UInt8.le_antisymm (UInt8.not_lt.1 h2) (UInt8.not_lt.1 h1)
    rw [e, UO l m h]
theorem Fs : ∀ l m n : List UInt8, Lib.compareBytes l m < 0 → Lib.compareBytes m n < 0 → Lib.compareBytes l n < 0
 | [], [], _, h, _ => by simp [Lib.compareBytes] at h
 | [], _ :: _, [], _, h => by simp [Lib.compareBytes] at h
 | [], _ :: _, _ :: _, _, _ => by simp [Lib.compareBytes]
 | _ :: _, [], _, h, _ => by simp [Lib.compareBytes] at h
 | _ :: _, _ :: _, [], _, h => by simp [Lib.compareBytes] at h
 | a :: l, b :: m, c :: n, h1, h2 => by
  unfold Lib.compareBytes at h1 h2 ⊢
  by_cases a1 : a < b
  ·by_cases b1 : b < c
   ·simp [UInt8.lt_trans a1 b1]
   ·by_cases b2 : c < b
    ·simp [b1, b2] at h2
    ·have e : b = c := UInt8.le_antisymm (UInt8.not_lt.1 b2) (UInt8.not_lt.1 b1)
     subst e; simp [a1]
  ·by_cases a2 : b < a
   ·simp [a1, a2] at h1
   ·have e : a = b := UInt8.le_antisymm (UInt8.not_lt.1 a2) (UInt8.not_lt.1 a1)
    subst e
    simp only [a1, if_false] at h1
    by_cases b1 : a < c
    ·simp [b1]
    ·by_cases b2 : c < a
     ·simp [b1, b2] at h2
     ·simp only [b1, b2, if_false] at h2 ⊢
      exact Fs l m n h1 h2
theorem yL (a : aS) : LV a a = false := by simp [LV, Qd, Jb]
theorem Km {a b c : aS} (h1 : LV a b = true) (h2 : LV b c = true) : LV a c = true := by
 simp only [LV, decide_eq_true_eq] at *
 exact Fs _ _ _ h1 h2
theorem SS {a b : aS} (h1 : LV a b = false) (h2 : LV b a = false) : a = b := by
 have g1 : ¬ Lib.compareBytes a.1 b.1 < 0 := of_decide_eq_false h1
 have g2 : ¬ Lib.compareBytes b.1 a.1 < 0 := of_decide_eq_false h2
 have h3 := Jc a.1 b.1
 exact Subtype.ext (UO _ _ (by omega))
def RV (k : aS) : List aS → List aS
 | [] => [k]
 | a :: l => if LV k a then k :: a :: l else a :: RV k l
theorem Aq (k : aS) : ∀ l, (RV k l).Perm (k :: l)
 | [] => .refl _
 | a :: l => by
  unfold RV
  split
  ·exact .refl _
  ·exact ((Aq k l).cons a).trans (.swap _ _ _)
end
section
open Go.RowKit
def cellsOf {α : Type} (enc : α → List Value) (l : List α) : List Value := l.flatMap enc
structure cu (P : Program) (t e : TypeId) {α : Type} (enc : α → List Value) (k : Nat) : Prop where
 slice : P.underlying t = some (.slice e)
 size : (P.info? e).map (·.size) = some k
 len : ∀ x, (enc x).length = k
 one : ∀ x, ∀ v ∈ enc x, v.oneCell' = true
 agg : ∀ w, (isAgg e).run P w = .ok true w
 pos : 0 < k
section
variable {α : Type} {enc : α → List Value} {k : Nat}
theorem aT (hk : ∀ x, (enc x).length = k) : ∀ l : List α, (cellsOf enc l).length = l.length * k
 | [] => by simp [cellsOf]
 | a :: l => by
  have ih := aT hk l
  simp only [cellsOf, List.flatMap_cons, List.length_append, List.length_cons, hk] at ih ⊢
  rw [ih, Nat.add_mul]; omega
theorem bS (l m : List α) : cellsOf enc (l ++ m) = cellsOf enc l ++ cellsOf enc m := by simp [cellsOf]
theorem uR (a : α) (m : List α) : cellsOf enc (a :: m) = enc a ++ cellsOf enc m := by simp [cellsOf]
theorem mO (a : α) : cellsOf enc [a] = enc a := by simp [cellsOf]
theorem cellsOf_nil : cellsOf enc [] = [] := rfl
theorem jA (hk : ∀ x, (enc x).length = k) (l : List α) (i : Nat) : (cellsOf enc l).drop (i * k) = cellsOf enc (l.drop i) := by
 by_cases h : i ≤ l.length
 ·conv => lhs; rw [← List.take_append_drop i l, bS]
  rw [List.drop_append_of_le_length (by rw [aT hk, List.length_take, Nat.min_eq_left h]; exact Nat.le_refl _)]
  rw [List.drop_of_length_le (by rw [aT hk, List.length_take, Nat.min_eq_left h]; exact Nat.le_refl _)]; simp
 ·rw [List.drop_of_length_le (by rw [aT hk]; exact Nat.mul_le_mul_right k (by omega)), List.drop_of_length_le (by omega)]; rfl
theorem oL (hk : ∀ x, (enc x).length = k) (l : List α) (i : Nat) : (cellsOf enc l).take (i * k) = cellsOf enc (l.take i) := by
 by_cases h : i ≤ l.length
 ·conv => lhs; rw [← List.take_append_drop i l, bS]
  rw [List.take_append_of_le_length (by rw [aT hk, List.length_take, Nat.min_eq_left h]; exact Nat.le_refl _)]
  rw [List.take_of_length_le (by rw [aT hk, List.length_take, Nat.min_eq_left h]; exact Nat.le_refl _)]
 ·rw [List.take_of_length_le (by rw [aT hk]; exact Nat.mul_le_mul_right k (by omega)), List.take_of_length_le (by omega)]
theorem oM (hk : ∀ x, (enc x).length = k) (l : List α) (i : Nat) (hi : i < l.length) (j : Nat) (hj : j < k) : (cellsOf enc l)[i * k + j]? = (enc l[i])[j]? := by
 rw [← List.getElem?_drop, jA hk, ← List.getElem_cons_drop hi, uR, List.getElem?_append_left (by rw [hk]; exact hj)]
theorem dB (h1 : ∀ x, ∀ v ∈ enc x, v.oneCell' = true) (l : List α) : ∀ v ∈ cellsOf enc l, v.oneCell' = true := by
 intro v hv
 simp only [cellsOf, List.mem_flatMap] at hv
 obtain ⟨x, _, hx⟩ := hv
 exact h1 x v hx
def au (w : World) (g o : Nat) (cs : List Value) : Prop := ∀ j u, cs[j]? = some u → w.cell? ⟨g, o + j, none⟩ = some u
theorem au.below {w w' : World} {B g o : Nat} {cs : List Value} (h : au w g o cs) (hb : Below B w w') (hg : g < B) : au w' g o cs := fun j u hj => (hb.cell (p := ⟨g, o + j, none⟩) hg).trans (h j u hj)
theorem au.at {w : World} {g o : Nat} {l : List α} (hk : ∀ x, (enc x).length = k) (h : au w g o (cellsOf enc l)) {i : Nat} (hi : i < l.length) : au w g (o + i * k) (enc l[i]) := fun j u hj => by
 have hj' : j < k := by
  have := (List.getElem?_eq_some_iff.1 hj).1; rwa [hk] at this
 rw [Nat.add_assoc]; exact h _ u (by rw [oM hk l i hi j hj']; exact hj)
theorem au.ah {w : World} {g : Nat} {t : TypeId} {cs : Array Value} (h : ax w g t cs) : au w g 0 cs.toList := fun j u hj => by
 rw [Nat.zero_add, h.cell j]; simpa using hj
structure aK (enc : α → List Value) (k : Nat) (w : World) (B : Nat) (A : Option Addr) (c : Nat) (l : List α) : Prop where
 le : l.length ≤ c
 max : c ≤ maxLen
 cells : l ≠ [] → ∃ g o, A = some ⟨g, o, none⟩ ∧ g < B ∧ au w g o (cellsOf enc l)
section
variable {w w' : World} {B B' : Nat} {A : Option Addr} {c : Nat} {l : List α}
theorem aK.below (h : aK enc k w B A c l) (hb : Below B w w') : aK enc k w' B A c l :=
 ⟨h.le, h.max, fun hn => let ⟨g, o, e, hg, hc⟩ := h.cells hn; ⟨g, o, e, hg, hc.below hb hg⟩⟩
theorem aK.more (h : aK enc k w B A c l) (hB : B ≤ B') : aK enc k w B' A c l :=
 ⟨h.le, h.max, fun hn => let ⟨g, o, e, hg, hc⟩ := h.cells hn; ⟨g, o, e, Nat.lt_of_lt_of_le hg hB, hc⟩⟩
theorem aK.drewN (h : aK enc k w B A c l) (n : Nat) : aK enc k (w.drewN n) B A c l := ⟨h.le, h.max, h.cells⟩
theorem aK.at (h : aK enc k w B A c l) (hk : ∀ x, (enc x).length = k) {i : Nat} (hi : i < l.length) : ∃ g o, A = some ⟨g, o, none⟩ ∧ g < B ∧ au w g (o + i * k) (enc l[i]) := by
 obtain ⟨g, o, e, hg, hc⟩ := h.cells (by intro e; subst e; simp at hi)
 exact ⟨g, o, e, hg, hc.at hk hi⟩
theorem aK.reads (h : aK enc k w B A c l) (hk : ∀ x, (enc x).length = k) : Reads w B k A l.length (cellsOf enc l) :=
 ⟨aT hk l, fun hn => by
  obtain ⟨g, o, e, hg, hc⟩ := h.cells (by intro e; subst e; simp at hn)
  refine ⟨_, e, hg, fun j u hj => ?_⟩
  have hadd : (⟨g, o, none⟩ : Addr).add j = ⟨g, o + j, none⟩ := by unfold Addr.add; split <;> simp_all
  rw [hadd]; exact hc j u hj⟩
theorem aK.nil {c : Nat} (hc : c ≤ maxLen) : aK enc k w B A c [] := ⟨Nat.zero_le _, hc, fun h => absurd rfl h⟩
theorem aK.fO {base : Nat} {e : TypeId} {v : Value} (hk : ∀ x, (enc x).length = k) (h : w.ownsRow base e k v l.length (cellsOf enc l)) : ∃ A c, v = .slice A l.length c ∧ aK enc k w w.heap.size A c l := by
 rcases h.2 with ⟨rfl, hn⟩ | ⟨g, cap, cur, rfl, hb, hh, hn, hm, hs, ht⟩
 ·have : l = [] := List.eq_nil_of_length_eq_zero hn
  subst this
  exact ⟨none, 0, rfl, aK.nil (Nat.zero_le _)⟩
 ·refine ⟨_, cap, rfl, hn, hm, fun _ => ⟨g, 0, rfl, ?_, fun j u hj => ?_⟩⟩
  ·rcases Nat.lt_or_ge g w.heap.size with hlt | hge
   ·exact hlt
   ·rw [Array.getElem?_eq_none hge] at hh; cases hh
  ·have hj' : j < l.length * k := by
    have := (List.getElem?_eq_some_iff.1 hj).1; rwa [aT hk] at this
   rw [Nat.zero_add, cell_of_row w g j cur e (0, 0) hh, ← Array.getElem?_toList, ← hj, ← ht, List.getElem?_take_of_lt hj']
theorem aK.take (h : aK enc k w B A c l) (hk : ∀ x, (enc x).length = k) (i : Nat) : aK enc k w B A c (l.take i) :=
 ⟨by have := h.le; rw [List.length_take]; omega, h.max, fun hn => by
  obtain ⟨g, o, e, hg, hc⟩ := h.cells (by intro e; subst e; simp at hn)
  refine ⟨g, o, e, hg, fun j u hj => hc j u ?_⟩
  rw [← oL hk] at hj
  have hj' := (List.getElem?_eq_some_iff.1 hj).1
  rw [List.length_take] at hj'
  rwa [List.getElem?_take_of_lt (by omega)] at hj⟩
def iN (k c i : Nat) (A : Option Addr) : Option Addr := if c = i then A else A.map (·.add (i * k))
theorem aK.drop (h : aK enc k w B A c l) (hk : ∀ x, (enc x).length = k) (i : Nat) (hi : i ≤ l.length) : aK enc k w B (iN k c i A) (c - i) (l.drop i) :=
 ⟨by have := h.le; rw [List.length_drop]; omega, by have := h.max; omega, fun hn => by
  have hlt : i < l.length := by
   rcases Nat.lt_or_ge i l.length with h1 | h1
   ·exact h1
   ·rw [List.drop_of_length_le h1] at hn; exact absurd rfl hn
  obtain ⟨g, o, rfl, hg, hc⟩ := h.cells (by intro e; subst e; simp at hlt)
  have hne : c ≠ i := by have := h.le; omega
  have hadd : (⟨g, o, none⟩ : Addr).add (i * k) = ⟨g, o + i * k, none⟩ := by unfold Addr.add; split <;> simp_all
  refine ⟨g, o + i * k, by unfold iN; rw [if_neg hne]; simp [hadd], hg, fun j u hj => ?_⟩
  rw [Nat.add_assoc]
  refine hc _ u ?_
  rw [← jA hk, List.getElem?_drop] at hj; exact hj⟩
end
section
variable {P : Program} {t e : TypeId} (T : cu P t e enc k)
include T
theorem cu.sizeOf (w : World) : (Go.sizeOf e).run P w = .ok k w := by
 have h := T.size
 cases hq : P.info? e with
 | none => simp [hq] at h
 | some i =>
  have hz : i.size = k := by simpa [hq] using h
  simp [Go.sizeOf, typeInfo, hq, hz]
theorem cu.load (w : World) (g o : Nat) (x : α) (h : au w g o (enc x)) : (loadVar e ⟨g, o, none⟩).run P w = .ok (.agg (enc x).toArray) w := by
 have hl := run_loadCellsFrom_list P w ⟨g, o, none⟩ (enc x) k (T.len x) (fun j v hv => by
  have hadd : (⟨g, o, none⟩ : Addr).add j = ⟨g, o + j, none⟩ := by unfold Addr.add; split <;> simp_all
  rw [hadd]; exact h j v hv)
 simp [loadVar, T.agg, T.sizeOf, loadCells, hl]
theorem cu.af {ops : Array Oper} {rest : List Oper} {o : Oper} {a : Act} {w : World} {Q : Exit → Act → World → Prop} (hw : Region.wanted o (yielded ops a.tmps) = true) (x : Operand) (ho : o.op = .load e x)
 (g off : Nat) (hx : a.eval x = .pointer (some ⟨g, off, none⟩)) (y : α) (hg : au w g off (enc y))
 (h : wpList P ops Q rest (a.put o.dst (.agg (enc y).toArray)) w) : wpList P ops Q (o :: rest) a w :=
 wpList_step fun _ hK => by
  rw [if_pos hw]
  unfold Oper.wp execOp
  simp only [ho, hx, Instr.loadAt, Instr.sureAddr, Sem.run_bind, Sem.run_pure, Result.andThen_ok, T.load w g off y hg]
  exact hK _ _ h
theorem cu.gM {ops : Array Oper} {C : World → Prop} {Q : Act → Prop} {a : Act} {rest : List Oper} {o : Oper} (hw : Region.wanted o (yielded ops a.tmps) = true) (x : Operand) (ho : o.op = .load e x)
 (g off : Nat) (hx : a.eval x = .pointer (some ⟨g, off, none⟩)) (y : α) (hg : ∀ w, C w → au w g off (enc y))
 (h : wpQuiet P ops C Q rest (a.put o.dst (.agg (enc y).toArray))) : wpQuiet P ops C Q (o :: rest) a :=
 wpQuiet_step fun K hK => by
  rw [if_pos hw]
  refine ⟨.agg (enc y).toArray, fun w hC => ?_, hK _ h⟩
  unfold Oper.quietAt execOp
  simp only [ho, hx, Instr.loadAt, Instr.sureAddr, Sem.run_bind, Sem.run_pure, Result.andThen_ok, T.load w g off y (hg w hC)]
  exact ⟨rfl, rfl⟩
theorem cu.xR (l : List α) (i : Nat) (hi : i < l.length) (x : α) : (cellsOf enc l).take (i * k) ++ enc x ++ (cellsOf enc l).drop (i * k + k) = cellsOf enc (l.set i x) := by
 rw [show i * k + k = (i + 1) * k by rw [Nat.add_mul, Nat.one_mul], oL T.len, jA T.len, List.set_eq_take_append_cons_drop, if_pos hi, bS, uR, List.append_assoc]
theorem cu.aj {ops : Array Oper} {rest : List Oper} {o : Oper} {a : Act} {w : World} {Q : Exit → Act → World → Prop} (hgd : o.guard = none) (x y : Operand) (ho : o.op = .store e x y)
 (hd : o.dst = none) (g i : Nat) (v : α) (hx : a.eval x = .pointer (some ⟨g, i * k, none⟩)) (hy : a.eval y = .agg (enc v).toArray) (te : TypeId) (l : List α) (hg : ax w g te (cellsOf enc l).toArray) (hi : i < l.length)
 (h : ∀ w', Only [g] w w' → ax w' g te (cellsOf enc (l.set i v)).toArray → wpList P ops Q rest a w') : wpList P ops Q (o :: rest) a w :=
 wpList_plain hgd fun _ hK => by
  have hfit : (i + 1) * k ≤ l.length * k := Nat.mul_le_mul_right k hi
  have hst := run_storeCells_at P g (i * k) te (enc v) 0 _ w hg (by rw [T.len, Nat.add_zero, List.size_toArray, aT T.len]; rw [Nat.add_mul, Nat.one_mul] at hfit; exact hfit) (T.one v)
  rw [Nat.add_zero, T.len] at hst
  have hs : (cellsOf enc l).toArray.toList = cellsOf enc l := by simp
  rw [hs, T.xR l i hi v] at hst
  have hrun : (storeVar e ⟨g, i * k, none⟩ (.agg (enc v).toArray)).run P w = .ok () (w.setRow g (cellsOf enc (l.set i v)).toArray) := by
   simp [storeVar, T.sizeOf, Value.cells, T.len, hst]
  unfold Oper.wp execOp
  simp only [ho, hx, hy, Instr.storeAt, Instr.sureAddr, Sem.run_bind, Sem.run_pure, Result.andThen_ok, hrun]
  rw [Oper.upon_skip, hd]
  exact hK _ _ (h _ (cK hg _).1 (cK hg _).2)
theorem cu.fill (l : List α) (cells : Array Value) (hs : cells.size = l.length * k) :
 Instr.fill (fun i => some (i * k, k)) cells (((l.map fun x => Value.agg (enc x).toArray).zipIdx 0).map fun x => (x.2, x.1)) = some (cellsOf enc l).toArray := by
 obtain ⟨r, hr, hz, hg⟩ := Great.fill_dense T.pos (l.map fun x => Value.agg (enc x).toArray) 0 cells (fun v hv => by
  obtain ⟨x, _, rfl⟩ := List.mem_map.1 hv
  simp [Value.cells, T.len]) (by simp [hs])
 rw [hr]
 congr 1
 apply Array.ext_getElem?
 intro j
 rw [hg j]
 by_cases hj : j < l.length * k
 ·have hq : j / k < l.length := (Nat.div_lt_iff_lt_mul T.pos).2 hj
  rw [if_pos (by simpa using hj), Nat.sub_zero, List.getElem?_map, List.getElem?_eq_getElem hq]
  have e : j = j / k * k + j % k := (Nat.div_add_mod' j k).symm
  have h2 : (cellsOf enc l).toArray[j]? = (enc l[j / k])[j % k]? := by
   rw [List.getElem?_toArray]
   conv => lhs; rw [e]
   exact oM T.len l (j / k) hq (j % k) (Nat.mod_lt _ T.pos)
  rw [h2]
  simp [Value.cells]
 ·rw [if_neg (by simpa using hj), Array.getElem?_eq_none (by omega), Array.getElem?_eq_none (by rw [List.size_toArray, aT T.len]; omega)]
theorem cu.wpList_build {ops : Array Oper} {rest : List Oper} {o : Oper} {a : Act} {w : World} {Q : Exit → Act → World → Prop} (hgd : o.guard = none) (hz : ((P.info? e).bind (·.zero)).isSome = true)
 (len : Nat) (parts : Array (Nat × Operand)) (ho : o.op = .buildSlice t len parts) (l : List α) (hl : l.length = len) (h0 : 0 < len) (hsmall : len * k ≤ 2 ^ 24)
 (hp : (parts.map fun (i, x) => (i, a.eval x)).toList = ((l.map fun x => Value.agg (enc x).toArray).zipIdx 0).map fun x => (x.2, x.1))
 (h : wpList P ops Q rest (a.put o.dst (.slice (some ⟨w.heap.size, 0, none⟩) len len)) (w.alloc (.cells (cellsOf enc l).toArray e))) : wpList P ops Q (o :: rest) a w := by
 have hs := T.size
 cases hie : P.info? e with
 | none => simp [hie] at hs
 | some ie =>
  simp only [hie, Option.map_some, Option.some.injEq, Option.bind_some] at hs hz
  obtain ⟨z, hzz⟩ := Option.isSome_iff_exists.1 hz
  refine wpList_buildSlice hgd t e len parts ho _ ie z T.slice hie hzz (by rw [hs]; omega) (by rw [hs]; have := Nat.mul_pos h0 T.pos; omega) ?_ h
  rw [hp, hs]
  exact T.fill l _ (by simp [hl])
theorem cu.made (w : World) (z : α) (zv : Value) (bytes : Nat) (hz : (P.info? e).map (fun i => (i.zero, i.bytes)) = some (some zv, bytes)) (hzc : zv.cells = (enc z).toArray) (hb : bytes ≤ 100000) (k1 k2 : IntKind) (n : Nat) (hn : n ≤ 1000000) :
 (Instr.makeSlice t (.int k1 (n : Int)) (.int k2 (n : Int))).run P w = .ok (.slice (some ⟨w.heap.size, 0, none⟩) n n) (w.alloc (.cells (cellsOf enc (List.replicate n z)).toArray e)) := by
 have hsz := T.size
 cases hie : P.info? e with
 | none => simp [hie] at hsz
 | some ie =>
  simp only [hie, Option.map_some, Option.some.injEq, Prod.mk.injEq] at hsz hz
  have hbn : ie.bytes * n ≤ 100000 * 1000000 := Nat.mul_le_mul (by omega) hn
  rw [rE (P := P) t e ie zv T.slice hie hz.1 k1 k2 n n (Nat.le_refl _) (by omega) (by omega) w, hzc, hsz]
  congr 3
  apply Array.ext_getElem?
  intro j
  by_cases hj : j < n * k
  ·have hq : j / k < n := (Nat.div_lt_iff_lt_mul T.pos).2 hj
   have e : j = j / k * k + j % k := (Nat.div_add_mod' j k).symm
   have hm := Nat.mod_lt j T.pos
   have h2 : (cellsOf enc (List.replicate n z)).toArray[j]? = (enc z)[j % k]? := by
    rw [List.getElem?_toArray]
    conv => lhs; rw [e]
    rw [oM T.len _ (j / k) (by simpa using hq) (j % k) hm, List.getElem_replicate]
   rw [h2]
   have hlz : j % k < (enc z).length := by rw [T.len]; exact hm
   rw [List.getElem?_eq_getElem hlz]
   simp [madeCells, hj, T.len, List.getElem?_eq_getElem hlz]
  ·rw [Array.getElem?_eq_none (by rw [size_madeCells]; omega), Array.getElem?_eq_none (by rw [List.size_toArray, aT T.len, List.length_replicate]; omega)]
theorem cu.tT (w : World) (A : Option Addr) (n c i : Nat) (hi : i ≤ c) : (Instr.slice t (.slice A n c) none (some (.int .i64 (i : Int))) none).run P w = .ok (.slice A i c) w := by
 have he : P.elem t = e := by simp [Program.elem, T.slice]
 rw [run_slice_h w t A n c (by rw [he]; exact T.slice) .i64 i (by omega) (by omega), he, T.sizeOf]
 simp only [Result.andThen_ok, sliced, Int.toNat_natCast, Nat.zero_mul, Nat.sub_zero]
 congr 2
 split
 ·rfl
 ·cases A <;> simp [Addr.add]
theorem cu.fG (w : World) (A : Option Addr) (n c i : Nat) (hi : i ≤ n) : (Instr.slice t (.slice A n c) (some (.int .i64 (i : Int))) none none).run P w = .ok (.slice (iN k c i A) (n - i) (c - i)) w := by
 have he : P.elem t = e := by simp [Program.elem, T.slice]
 rw [run_slice_l w t A n c (by rw [he]; exact T.slice) .i64 i (by omega) (by omega), he, T.sizeOf]
 simp only [Result.andThen_ok, sliced, Int.toNat_natCast, iN]
end
end
end
section
open Go.RowKit Go.ChangeShapes Go.WideShapes
section
variable {H : Type} {enc : TypeId × Value → H} {P : Program} {w : World} {base : Nat} {spare : Nat → Bool} {held : Bool} {t e : TypeId} {k : IntKind} {v : Value} {d : DataW H} {ps : List MemPlace}
theorem trod_below (h : DataW.Trod enc P w base spare held t v d ps) : ∀ x ∈ ps, x.block < w.heap.size := by
 obtain ⟨m, hm⟩ := h
 exact DataW.trod_lt m _ _ _ hm
end
end
section
open Go.RowKit Go.ChangeShapes Go.WideShapes
section
variable {H : Type} {enc : TypeId × Value → H} {P : Program} {w : World} {base : Nat} {spare : Nat → Bool} {held : Bool} {t tk e : TypeId} {v : Value} {d : DataW H} {ps : List MemPlace}
theorem aa3 {fuel : Nat} {cs : List Value} {x : DataW H × List MemPlace} (ht : P.underlying tk = some (.array 32 e)) (he : P.underlying e = some (.int .u8)) (hc : P.cellsOf e = 1) (hl : cs.length = 32)
 (h : DataW.trod enc P w base spare held fuel tk cs = some x) : ∃ k : aS, cs = ak k := by
 obtain ⟨xs, m, rfl, hx, hl', hxl, hi⟩ := DataW.trod_array ht h
 have hel : ∀ i, i < 32 → ∃ z : Int, cs[i]? = some (.int .u8 z) ∧ 0 ≤ z ∧ z < 256 := by
  intro i hlt
  have h1 := hi i hlt
  rw [hc, Nat.mul_one, List.getElem?_eq_getElem (by omega)] at h1
  obtain ⟨z, e1, e2, e3⟩ := DataW.trod_int he h1
  have h2 : (cs.drop i)[0]? = some (.int .u8 z) := by
   have := congrArg (fun q : List Value => q[0]?) e1
   simpa [List.getElem?_take] using this
  refine ⟨z, by simpa using h2, ?_, ?_⟩
  ·simp [Lit.wf, IntKind.min, IntKind.max, IntKind.signed, IntKind.bits] at e3; omega
  ·simp [Lit.wf, IntKind.min, IntKind.max, IntKind.signed, IntKind.bits] at e3; omega
 refine ⟨⟨cs.map fun v => match v with | .int _ z => UInt8.ofNat z.toNat | _ => 0, by simp [hl]⟩, ?_⟩
 apply List.ext_getElem?
 intro i
 by_cases hlt : i < 32
 ·obtain ⟨z, e1, z0, z1⟩ := hel i hlt
  rw [e1]
  simp [ak, ay, e1]
  omega
 ·rw [List.getElem?_eq_none (by omega), List.getElem?_eq_none (by rw [aC]; omega)]
theorem aa0 {r : Reach} {b0 : Nat} (ht : P.underlying t = some (.slice tk)) (hk : P.underlying tk = some (.array 32 e)) (he : P.underlying e = some (.int .u8)) (hc : P.cellsOf e = 1) (hct : P.cellsOf tk = 32)
 (hval : Value.okWide P w r b0 t v) (hd : DataW.Trod enc P w base spare held t v d ps) : ∃ A c l, v = .slice A (l : List aS).length c ∧ aK ak 32 w w.heap.size A c l := by
 obtain ⟨A, n, cap, rfl⟩ := okWide_slice ht hval
 obtain ⟨fuel, hf⟩ := hd
 rcases Deep.open_slice ht hf with ⟨hcs, _⟩ | ⟨a, len, c, m, n', D, Pl, hcs, _, hl, hm, hmm, _, hx⟩
 ·simp [Value.cells] at hcs
  obtain ⟨rfl, rfl, rfl⟩ := hcs
  exact ⟨none, 0, [], rfl, aK.nil (Nat.zero_le _)⟩
 ·simp [Value.cells] at hcs
  obtain ⟨rfl, rfl, rfl⟩ := hcs
  have hlm : n ≤ m := by rw [hmm]; split <;> omega
  rw [hct] at hx
  obtain ⟨f, hf'⟩ := Deep.choose_lt (n := n) (p := fun i (k : aS) => w.cells? base (a.add (i * 32)) 32 = some (ak k)) (fun i hi => by
   obtain ⟨cs', h1, h2⟩ := hx i (by omega)
   obtain ⟨_, hlen, _⟩ := World.cells?_some h1
   obtain ⟨k, rfl⟩ := aa3 hk he hc hlen h2
   exact ⟨k, h1⟩)
  have hrow : ∀ j u, (cellsOf ak ((List.range n).map f))[j]? = some u → w.cell? (a.add j) = some u := by
   intro j u hj
   have hj' := (List.getElem?_eq_some_iff.1 hj).1
   rw [aT aC, List.length_map, List.length_range] at hj'
   have hq : j / 32 < n := (Nat.div_lt_iff_lt_mul (by omega)).2 hj'
   have e : j = j / 32 * 32 + j % 32 := (Nat.div_add_mod' j 32).symm
   rw [e, oM aC _ (j / 32) (by simpa using hq) (j % 32) (Nat.mod_lt _ (by omega))] at hj
   simp only [List.getElem_map, List.getElem_range] at hj
   have h3 := (World.cells?_some (hf' (j / 32) hq)).2.2 (j % 32) (Nat.mod_lt _ (by omega))
   rw [Deep.add_add, ← e] at h3
   rw [h3]
   simpa using hj
  refine ⟨some a, cap, (List.range n).map f, by simp, by simpa using hl, hm, fun hn => ?_⟩
  have hn0 : 0 < n := by
   rcases Nat.eq_zero_or_pos n with h0 | h0
   ·subst h0; simp at hn
   ·exact h0
  have hz : 0 < (cellsOf ak ((List.range n).map f)).length := by rw [aT aC]; simp; omega
  have h0 := hrow 0 _ (List.getElem?_eq_getElem hz)
  obtain ⟨b, off, spot⟩ := a
  have hspot : spot = none := by simpa [Addr.add] using World.cell?_spot h0
  subst hspot
  refine ⟨b, off, rfl, ?_, fun j u hj => ?_⟩
  ·have := World.block_lt_of_cell? w _ h0
   rwa [CJ] at this
  ·have hadd : (⟨b, off, none⟩ : Addr).add j = ⟨b, off + j, none⟩ := by unfold Addr.add; split <;> simp_all
   rw [← hadd]; exact hrow j u hj
end
end
section
open Go.RowKit
theorem nZ {P : Program} (t e : TypeId) (z : Value) (bytes : Nat) (ht : P.underlying t = some (.slice e)) (hi : (P.info? e).map (fun i => (i.zero, i.size, i.bytes)) = some (some z, 1, bytes)) (hz : z.cells = #[z]) (hb : bytes ≤ 64)
 (k1 k2 : IntKind) (n : Nat) (hn : n ≤ 1000000000) (w : World) : (Instr.makeSlice t (.int k1 (n : Int)) (.int k2 (n : Int))).run P w = .ok (.slice (some ⟨w.heap.size, 0, none⟩) n n) (w.alloc (.cells (madeCells #[z] n) e)) := by
 obtain ⟨i, hi0, hz0, hz1, hz2⟩ := info_parts hi
 have hbn : i.bytes * n ≤ 64 * 1000000000 := Nat.mul_le_mul (by omega) hn
 have h := rE (P := P) t e i z ht hi0 hz0 k1 k2 n n (Nat.le_refl _) (by omega) (by omega) w
 rw [hz, hz1, Nat.mul_one] at h
 exact h
theorem OH (z : Value) (n i : Nat) (h : i < n) : (madeCells #[z] n)[i]? = some z := by
 have e := toList_madeCells_one z n
 rw [← Array.getElem?_toList, e, List.getElem?_replicate, if_pos h]
end
section
open Go.RowKit
def From (w w' : World) : Prop := Below w.heap.size w w'
theorem From.below {w w' : World} (h : From w w') : Below w.heap.size w w' := h
theorem From.call {w w1 w2 : World} (h : From w w1) (hb : Below w1.heap.size w1 w2) : From w w2 := Below.trans h (hb.mono (Below.size h))
theorem fE {P : Program} {id : Nat} {Q : Exit → Act → World → Prop} {a : Act} {w : World} {l : List Oper} (hm : P.follows .mixedOrders = true) (hB : Region.lexB .any l.toArray = true)
 (h : wpQuiet P l.toArray (From w) (fun a' => ∀ w', From w w' → Q .normal a' w') l a) : (Code.region id l.toArray true).wp P Q a w :=
 wp_region_quiet (C := From w) hm hB (show Below _ _ _ from (Below.refl _ _).drew) (by simpa using h)
section
variable {P : Program} {ops : Array Oper} {C : World → Prop} {Q : Act → Prop} {a : Act} {rest : List Oper}
theorem bI {dst : Option Tmp} {ty kG : TypeId} {pos : String} {after : Array Edge} {gd : Option (Nat × Bool)} (i : Nat)
 (h : wpQuiet P ops C Q ({ dst := dst, op := .load ty (.tmp i), type := kG, pos := pos, after := after, guard := gd } :: rest) a) :
 wpQuiet P ops C Q ({ dst := dst, op := .load ty (.tmp i), type := kG, pos := pos, after := after, guard := gd } :: rest) a := h
theorem TP {dst : Option Tmp} {ty yt kG : TypeId} {pos : String} {after : Array Edge} {gd : Option (Nat × Bool)} (i j : Nat)
 (h : wpQuiet P ops C Q ({ dst := dst, op := .binOp .eql ty (.tmp i) (.tmp j) yt, type := kG, pos := pos, after := after, guard := gd } :: rest) a) :
 wpQuiet P ops C Q ({ dst := dst, op := .binOp .eql ty (.tmp i) (.tmp j) yt, type := kG, pos := pos, after := after, guard := gd } :: rest) a := h
theorem wM {o : Oper} (hw : Region.wanted o (yielded ops a.tmps) = true) (ty yt : TypeId) (x y : Operand) (ho : o.op = .binOp .eql ty x y yt)
 (cx cy : Array Value) (hx : a.eval x = .agg cx) (hy : a.eval y = .agg cy) (hg : P.eqGuardType P.depth ty = false) (r : Bool) (he : ∀ V, (Op.equal ty (.agg cx) (.agg cy)).run P V = .ok r V)
 (h : wpQuiet P ops C Q rest (a.put o.dst (.bool r))) : wpQuiet P ops C Q (o :: rest) a :=
 wpQuiet_step fun K hK => by
  rw [if_pos hw]
  refine ⟨.bool r, fun w hC => ?_, hK _ h⟩
  unfold Oper.quietAt execOp
  simp only [ho, hx, hy]
  unfold eqGuard binOp
  simp [go_sem, hg, he]
end
end
section
open Go.RowKit
section
variable {P : Program} {ops : Array Oper} {rest : List Oper} {o : Oper} {a : Act} {w : World} {Q : Exit → Act → World → Prop}
theorem iY (hw : Region.wanted o (yielded ops a.tmps) = true) (ty yt : TypeId) (x y : Operand) (ho : o.op = .binOp .neq ty x y yt)
 (cx cy : Array Value) (hx : a.eval x = .agg cx) (hy : a.eval y = .agg cy) (hg : P.eqGuardType P.depth ty = false) (r : Bool) (he : ∀ V, (Op.equal ty (.agg cx) (.agg cy)).run P V = .ok r V)
 (h : wpList P ops Q rest (a.put o.dst (.bool !r)) w) : wpList P ops Q (o :: rest) a w :=
 wpList_step fun K hK => by
  rw [if_pos hw]
  have h' := hK _ _ h
  have hrun : (execOp a.eval o).run P w = .ok (.value (.bool !r)) w := by
   unfold execOp
   simp only [ho, hx, hy]
   unfold eqGuard binOp
   simp [go_sem, hg, he]
  unfold Oper.wp
  rw [hrun, Oper.upon_value]
  exact h'
theorem uV {dst : Option Tmp} {ty yt kG : TypeId} {pos : String} {after : Array Edge} {gd : Option (Nat × Bool)} (i j : Nat)
 (h : wpList P ops Q ({ dst := dst, op := .binOp .neq ty (.tmp i) (.tmp j) yt, type := kG, pos := pos, after := after, guard := gd } :: rest) a w) :
 wpList P ops Q ({ dst := dst, op := .binOp .neq ty (.tmp i) (.tmp j) yt, type := kG, pos := pos, after := after, guard := gd } :: rest) a w := h
end
end
section
open Go.RowKit
theorem fP {P : Program} {ty : TypeId} (ha : ∀ w, (isAgg ty).run P w = .ok false w) {w : World} {p : Addr} {v : Value} (hc : w.cell? p = some v) : (loadVar ty p).run P w = .ok v w := by
 simp [loadVar, ha, run_load, hc]
section
variable {P : Program} {ops : Array Oper} {C : World → Prop} {Q : Act → Prop} {a : Act} {rest : List Oper}
theorem aN {o : Oper} (hw : Region.wanted o (yielded ops a.tmps) = true) (ty : TypeId) (x : Operand) (ho : o.op = .load ty x)
 (p : Addr) (hx : a.eval x = .pointer (some p)) (v : Value) (ha : ∀ w, (isAgg ty).run P w = .ok false w) (hg : ∀ w, C w → w.cell? p = some v)
 (h : wpQuiet P ops C Q rest (a.put o.dst v)) : wpQuiet P ops C Q (o :: rest) a :=
 wpQuiet_step fun K hK => by
  rw [if_pos hw]
  refine ⟨v, fun w hC => ?_, hK _ h⟩
  unfold Oper.quietAt execOp
  simp only [ho, hx, Instr.loadAt, Instr.sureAddr, Sem.run_bind, Sem.run_pure, Result.andThen_ok, fP ha (hg w hC)]
  exact ⟨rfl, rfl⟩
end
end
section
open Go.RowKit
end
section
open Go.RowKit
section
variable {P : Program} {ops : Array Oper}
theorem bH {S : World → Prop} {a : Act} {o : Oper} (hw : Region.wanted o (yielded ops a.tmps) = true) (t : TypeId) (parts : Array (Nat × Operand)) (ho : o.op = .build t parts) (cells : Array Value)
 (hb : P.built t (parts.map fun (i, x) => (i, a.eval x)).toList = some cells) : YieldsIf P ops S o (.agg cells) a :=
 .inl ⟨hw, fun w _ => by
  unfold execOp
  simp only [ho, Sem.run_bind, run_build w t _ cells hb, Result.andThen_ok]
  rfl⟩
theorem bu {rest : List Oper} {o : Oper} {a : Act} {w : World} {Q : Exit → Act → World → Prop} (hgd : o.guard = none) (t : TypeId) (parts : Array (Nat × Operand)) (ho : o.op = .build t parts) (cells : Array Value)
 (hb : P.built t (parts.map fun (i, x) => (i, a.eval x)).toList = some cells) (h : wpList P ops Q rest (a.put o.dst (.agg cells)) w) : wpList P ops Q (o :: rest) a w := by
 refine wpList_plain hgd fun K hK => ?_
 unfold Oper.wp execOp
 simp only [ho, Sem.run_bind, run_build w t _ cells hb, Result.andThen_ok]
 exact hK _ _ h
theorem bW {rest : List Oper} {a : Act} {w : World} {Q : Exit → Act → World → Prop} {ty kG : TypeId} {parts : Array (Nat × Operand)} {pos : String} {after : Array Edge} {gd : Option (Nat × Bool)} (i : Nat)
 (h : wpList P ops Q ({ dst := some i, op := .build ty parts, type := kG, pos := pos, after := after, guard := gd } :: rest) a w) :
 wpList P ops Q ({ dst := some i, op := .build ty parts, type := kG, pos := pos, after := after, guard := gd } :: rest) a w := h
theorem nA {rest : List Oper} {a : Act} {w : World} {Q : Exit → Act → World → Prop} {ty kG : TypeId} {len : Nat} {parts : Array (Nat × Operand)} {pos : String} {after : Array Edge} {gd : Option (Nat × Bool)} (i : Nat)
 (h : wpList P ops Q ({ dst := some i, op := .buildSlice ty len parts, type := kG, pos := pos, after := after, guard := gd } :: rest) a w) :
 wpList P ops Q ({ dst := some i, op := .buildSlice ty len parts, type := kG, pos := pos, after := after, guard := gd } :: rest) a w := h
theorem lY {rest : List Oper} {a : Act} {w : World} {Q : Exit → Act → World → Prop} {t t' kG : TypeId} {pos : String} {after : Array Edge} {gd : Option (Nat × Bool)} (d i j : Nat)
 (h : wpList P ops Q ({ dst := some d, op := .call { callee := .builtin .append, args := #[.tmp i, .tmp j], argTypes := #[t, t'] }, type := kG, pos := pos, after := after, guard := gd } :: rest) a w) :
 wpList P ops Q ({ dst := some d, op := .call { callee := .builtin .append, args := #[.tmp i, .tmp j], argTypes := #[t, t'] }, type := kG, pos := pos, after := after, guard := gd } :: rest) a w := h
theorem FH {rest : List Oper} {a : Act} {w : World} {Q : Exit → Act → World → Prop} {t t' kG : TypeId} {pos : String} {after : Array Edge} {gd : Option (Nat × Bool)} (d i j : Nat)
 (h : wpList P ops Q ({ dst := some d, op := .call { callee := .builtin .copy, args := #[.tmp i, .tmp j], argTypes := #[t, t'] }, type := kG, pos := pos, after := after, guard := gd } :: rest) a w) :
 wpList P ops Q ({ dst := some d, op := .call { callee := .builtin .copy, args := #[.tmp i, .tmp j], argTypes := #[t, t'] }, type := kG, pos := pos, after := after, guard := gd } :: rest) a w := h
end
section
variable {α : Type} {enc : α → List Value} {k : Nat} {P : Program} {t e : TypeId} (T : cu P t e enc k) {ops : Array Oper}
include T
theorem cu.aB {S : World → Prop} {a : Act} {o : Oper} (hw : Region.wanted o (yielded ops a.tmps) = true) (x : Operand) (ho : o.op = .load e x)
 (g off : Nat) (hx : a.eval x = .pointer (some ⟨g, off, none⟩)) (y : α) (hg : ∀ w, S w → au w g off (enc y)) : YieldsIf P ops S o (.agg (enc y).toArray) a :=
 .inl ⟨hw, fun w hS => by
  unfold execOp
  simp only [ho, hx, Instr.loadAt, Instr.sureAddr, Sem.run_bind, Sem.run_pure, Result.andThen_ok, T.load w g off y (hg w hS)]⟩
theorem cu.gN {o : Oper} {a : Act} {w : World} {K : Act → World → Prop} {Q : Exit → Act → World → Prop} {E : Prop} (hgd : o.guard = none) (hz : ((P.info? e).bind (·.zero)).isSome = true)
 (len : Nat) (parts : Array (Nat × Operand)) (ho : o.op = .buildSlice t len parts) (l : List α) (hl : l.length = len) (h0 : 0 < len) (hsmall : len * k ≤ 2 ^ 24)
 (hp : (parts.map fun (i, x) => (i, a.eval x)).toList = ((l.map fun x => Value.agg (enc x).toArray).zipIdx 0).map fun x => (x.2, x.1))
 (h : K (a.put o.dst (.slice (some ⟨w.heap.size, 0, none⟩) len len)) (w.alloc (.cells (cellsOf enc l).toArray e))) :
 if Region.wanted o (yielded ops a.tmps) = true then Oper.wp P o a w K Q else E := by
 have hw : Region.wanted o (yielded ops a.tmps) = true := by simp [Region.wanted, hgd]
 rw [if_pos hw]
 have hs := T.size
 cases hie : P.info? e with
 | none => simp [hie] at hs
 | some ie =>
  simp only [hie, Option.map_some, Option.some.injEq, Option.bind_some] at hs hz
  obtain ⟨z, hzz⟩ := Option.isSome_iff_exists.1 hz
  refine wp_buildSlice t e len parts ho _ ie z T.slice hie hzz (by rw [hs]; omega) (by rw [hs]; have := Nat.mul_pos h0 T.pos; omega) ?_ h
  rw [hp, hs]
  exact T.fill l _ (by simp [hl])
end
theorem JH {α : Type} {enc : α → List Value} {k : Nat} {w' : World} {e : TypeId} {g c : Nat} {l : List α} (hb : ax w' g e (cellsOf enc l).toArray) (hc : l.length ≤ c) (hm : c ≤ maxLen) : aK enc k w' w'.heap.size (some ⟨g, 0, none⟩) c l :=
 ⟨hc, hm, fun _ => ⟨g, 0, rfl, hb.lt, by have := au.ah hb; simpa using this⟩⟩
end
section
open Go.RowKit
theorem LA {w w' : World} {g : Nat} {t : TypeId} {cs : Array Value} {row : Option Nat} (h : ax w g t cs) (hg : w.grownBy w' row) (hne : some g ≠ row) : ax w' g t cs := (hg.block g h.lt hne).trans h
section
variable {α : Type} {enc : α → List Value} {k : Nat} {P : Program} {t e : TypeId} (T : cu P t e enc k) {ops : Array Oper}
include T
theorem cu.step_append {o : Oper} {a : Act} {w : World} {K : Act → World → Prop} {Q : Exit → Act → World → Prop} {E : Prop} (hgd : o.guard = none) (hz : ((P.info? e).bind (·.zero)).map (·.cells.size) = some k) (bytes : Nat) (hb : (P.info? e).map (·.bytes) = some bytes) (hby : bytes ≤ 100000) (s x : Operand)
 (ho : o.op = .call { callee := .builtin .append, args := #[s, x], argTypes := #[t, t] })
 (base : Nat) (v : Value) (l : List α) (hs : a.eval s = v) (hown : w.ownsRow base e k v l.length (cellsOf enc l))
 (B : Nat) (A : Option Addr) (c : Nat) (m : List α) (hx : a.eval x = .slice A m.length c) (hm : aK enc k w B A c m) (hn : l.length + m.length ≤ 1000000) (hbase : base ≤ w.heap.size)
 (h : ∀ v' w', w'.ownsRow base e k v' (l ++ m).length (cellsOf enc (l ++ m)) → w.grownBy w' v.ownBlock → K (a.put o.dst v') w') :
 if Region.wanted o (yielded ops a.tmps) = true then Oper.wp P o a w K Q else E := by
 have hsz := T.size
 cases hie : P.info? e with
 | none => simp [hie] at hsz
 | some ie =>
  simp only [hie, Option.map_some, Option.some.injEq, Option.bind_some, Option.map_eq_some_iff] at hsz hz hb
  obtain ⟨z, hz1, hz2⟩ := hz
  refine pz w hgd s x t ho base e ie z k bytes T.slice hie hz1 hsz hb hz2 T.pos v l.length (cellsOf enc l) hs hown B A m.length c (cellsOf enc m) hx (hm.reads T.len) (dB T.one _) ?_ ?_ hbase ?_
  ·unfold maxLen; omega
  ·have : (l.length + m.length) * bytes ≤ 1000000 * 100000 := Nat.mul_le_mul hn hby
   omega
  ·intro v' w' h2 h3 _
   exact h v' w' (by rw [List.length_append, bS]; exact h2) h3
end
end
section
open Go.RowKit
section
variable {α : Type} {enc : α → List Value} {k : Nat} {P : Program} {t e : TypeId} (T : cu P t e enc k)
theorem oC {w : World} {base g n cap : Nat} {e : TypeId} {k : Nat} {xs : List Value} (h : w.ownsRow base e k (.slice (some ⟨g, 0, none⟩) n cap) n xs) :
 ∃ cur, ax w g e cur ∧ base ≤ g ∧ n ≤ cap ∧ cap ≤ maxLen ∧ cur.size = cap * k ∧ cur.toList.take (n * k) = xs := by
 rcases h.2 with ⟨h1, _⟩ | ⟨g', cap', cur, h1, hb, hh, hn, hm, hs, ht⟩
 ·cases h1
 ·injection h1 with h1 h2 h3
  injection h1 with h1
  injection h1 with h1
  subst h1
  subst h3
  exact ⟨cur, hh, hb, hn, hm, hs, ht⟩
end
end
section
open Go.RowKit Go.ChangeShapes Go.WideShapes
end
section
open Go.RowKit
def fM (w : World) (base : Nat) (v : Value) (n : Nat) (xs : List Value) : Prop :=
 xs.length = n ∧ ((v = .slice none 0 0 ∧ n = 0) ∨ ∃ g cap, v = .slice (some ⟨g, 0, none⟩) n cap ∧ base ≤ g ∧ g < w.heap.size ∧ n ≤ cap ∧ cap ≤ maxLen ∧
  (∀ j u, xs[j]? = some u → w.cell? ⟨g, j, none⟩ = some u) ∧ ∀ j, j < cap → (w.cell? ⟨g, j, none⟩).isSome = true ∧ w.frozen? ⟨g, j, none⟩ = false)
section
variable {w w' : World} {base n : Nat} {v : Value} {xs : List Value}
theorem fM.fO {e : TypeId} (h : w.ownsRow base e 1 v n xs) : fM w base v n xs := by
 have hx := h.1
 rw [Nat.mul_one] at hx
 refine ⟨hx, ?_⟩
 rcases h.2 with h0 | ⟨g, cap, cur, rfl, hb, hh, hn, hc, hs, ht⟩
 ·exact .inl h0
 ·refine .inr ⟨g, cap, rfl, hb, (Array.getElem?_eq_some_iff.1 hh).1, hn, hc, fun j u hu => ?_, fun j hj => ?_⟩
  ·have := h.cells (g := g) rfl j u hu
   rwa [show (⟨g, 0, none⟩ : Addr).add j = ⟨g, j, none⟩ by unfold Addr.add; split <;> simp_all] at this
  ·rw [Nat.mul_one] at hs
   exact ⟨by rw [cell_of_row w g j cur e (0, 0) hh, Array.getElem?_eq_getElem (by omega)]; rfl, by simp [World.frozen?, hh]⟩
theorem fM.keep (h : fM w base v n xs) (hk : ∀ b, base ≤ b → b < w.heap.size → w'.heap[b]? = w.heap[b]?) (hz : w.heap.size ≤ w'.heap.size) : fM w' base v n xs := by
 refine ⟨h.1, ?_⟩
 rcases h.2 with h0 | ⟨g, cap, rfl, hb, hg, hn, hc, hx, hw⟩
 ·exact .inl h0
 ·have hcell : ∀ j, w'.cell? ⟨g, j, none⟩ = w.cell? ⟨g, j, none⟩ := fun j => World.cell?_of_block (a := ⟨g, j, none⟩) (hk g hb hg)
  have hfr : ∀ j, w'.frozen? ⟨g, j, none⟩ = w.frozen? ⟨g, j, none⟩ := fun j => by unfold World.frozen?; rw [hk g hb hg]
  exact .inr ⟨g, cap, rfl, hb, by omega, hn, hc, fun j u hu => (hcell j).trans (hx j u hu), fun j hj => by rw [hcell, hfr]; exact hw j hj⟩
theorem fM.below (h : fM w base v n xs) (hb : Below w.heap.size w w') : fM w' base v n xs := h.keep (fun b _ hlt => hb.block b hlt) hb.size
theorem fM.alloc (h : fM w base v n xs) (o : Obj) : fM (w.alloc o) base v n xs := h.below ((Below.refl _ _).alloc (Nat.le_refl _) o)
theorem fM.drew (h : fM w base v n xs) : fM w.drew base v n xs := h
theorem fM.drewN (h : fM w base v n xs) (k : Nat) : fM (w.drewN k) base v n xs := h
theorem fM.reads (h : fM w base v n xs) : ∃ A c, v = .slice A n c ∧ Reads w w.heap.size 1 A n xs := by
 rcases h.2 with ⟨rfl, rfl⟩ | ⟨g, cap, rfl, hb, hg, hn, hc, hx, hw⟩
 ·exact ⟨none, 0, rfl, by rw [h.1, Nat.mul_one], fun h0 => absurd h0 (by omega)⟩
 ·refine ⟨some ⟨g, 0, none⟩, cap, rfl, by rw [h.1, Nat.mul_one], fun _ => ⟨_, rfl, hg, fun j u hu => ?_⟩⟩
  rw [show (⟨g, 0, none⟩ : Addr).add j = ⟨g, j, none⟩ by unfold Addr.add; split <;> simp_all]
  exact hx j u hu
end
theorem fM.stored {w : World} {base n cap g : Nat} {xs : List Value} (h : fM w base (.slice (some ⟨g, 0, none⟩) n cap) n xs) (hroom : n + 1 ≤ cap) (u : Value) (hg : base ≤ g) :
 fM (w.setCell ⟨g, n, none⟩ u) base (.slice (some ⟨g, 0, none⟩) (n + 1) cap) (n + 1) (xs ++ [u]) ∧ (base ≤ g → Below base w (w.setCell ⟨g, n, none⟩ u)) := by
 rcases h.2 with ⟨h0, _⟩ | ⟨g', cap', h0, hb, hlt, hn, hc, hx, hw⟩
 ·cases h0
 ·injection h0 with h0 _ h1
  injection h0 with h0
  injection h0 with h0
  subst h0 h1
  have hs : (w.cell? ⟨g, n, none⟩).isSome = true := (hw n (by omega)).1
  obtain ⟨old, hold⟩ := Option.isSome_iff_exists.1 hs
  refine ⟨⟨by simp [h.1], .inr ⟨g, cap, rfl, hg, by simpa [World.setCell] using hlt, hroom, hc, fun j x hj => ?_, fun j hj => ?_⟩⟩, fun hbg => (Below.refl _ _).setCell hbg u⟩
  ·by_cases e : j = n
   ·subst e
    rw [List.getElem?_append_right (by rw [h.1]; exact Nat.le_refl _), h.1, Nat.sub_self] at hj
    simp at hj
    subst hj
    exact World.cell?_setCell_same _ _ _ hold
   ·have hjl : j < n := by
     rcases Nat.lt_or_ge j (xs ++ [u]).length with h2 | h2
     ·rw [List.length_append, h.1] at h2; simp at h2; omega
     ·rw [List.getElem?_eq_none h2] at hj; cases hj
    rw [List.getElem?_append_left (by rw [h.1]; exact hjl)] at hj
    rw [World.cell?_setCell_other _ _ _ _ (fun e2 => by injection e2 with _ e2; exact e e2.symm)]
    exact hx j x hj
  ·rw [World.frozen?_setCell]
   refine ⟨?_, (hw j hj).2⟩
   by_cases e : j = n
   ·subst e; rw [World.cell?_setCell_same _ _ _ hold]; rfl
   ·rw [World.cell?_setCell_other _ _ _ _ (fun e2 => by injection e2 with _ e2; exact e e2.symm)]
    exact (hw j hj).1
theorem j4 {P : Program} {ops : Array Oper} {rest : List Oper} {o : Oper} {a : Act} {w : World} {Q : Exit → Act → World → Prop} (hgd : o.guard = none) (s x : Operand) (t : TypeId)
 (ho : o.op = .call { callee := .builtin .append, args := #[s, x], argTypes := #[t, t] })
 (base : Nat) (e : TypeId) (z : Value) (bytes : Nat) (ht : P.underlying t = some (.slice e)) (hi : (P.info? e).map (fun i => (i.zero, i.size, i.bytes)) = some (some z, 1, bytes))
 (hzs : z.cells.size = 1) (hby : bytes ≤ 64) (v : Value) (n : Nat) (xs : List Value) (hs : a.eval s = v) (hown : fM w base v n xs)
 (g c : Nat) (u : Value) (hx : a.eval x = .slice (some ⟨g, 0, none⟩) 1 c) (hb : ax w g e #[u]) (h1 : u.oneCell' = true) (hn : n + 1 ≤ 1000000000) (hbase : base ≤ w.heap.size)
 (h : ∀ v' w', fM w' base v' (n + 1) (xs ++ [u]) → Below base w w' → wpList P ops Q rest (a.put o.dst v') w') : wpList P ops Q (o :: rest) a w := by
 obtain ⟨i, hi0, hz0, hz1, hz2⟩ := info_parts hi
 have hbb : (n + 1) * bytes ≤ 1000000000 * 64 := Nat.mul_le_mul hn hby
 rcases hown.2 with ⟨rfl, rfl⟩ | ⟨g', cap, rfl, hbg, hlt, hnc, hc, hcell, hw⟩
 ·have hx0 : xs = [] := List.eq_nil_of_length_eq_zero hown.1
  subst hx0
  refine wN hgd s x t ho base e z bytes ht hi hzs hby (.slice none 0 0) 0 [] hs (World.ownsRow_nil w base e 1) g c u hx hb h1 hn hbase fun v' w' o1 g1 _ => ?_
  exact h v' w' (fM.fO o1) (wD g1 (World.ownsRow_nil w base e 1) hbase)
 ·refine wpList_append_arg w hgd s x t ho e i z 1 bytes ht hi0 hz0 hz1 hz2 hzs (by omega) g' 0 n cap xs hs (by rw [hown.1, Nat.mul_one]) (fun j y hy => by rw [Nat.zero_add]; exact hcell j y hy) ⟨g, 0, none⟩ 1 c [u] hx rfl ?_ ?_ ?_ ?_ ?_ ?_ ?_
  ·intro j y hj
   match j, hj with
   | 0, hj => simp at hj; subst hj; simpa [Addr.add] using hb.cell 0
  ·intro y hy; simp at hy; subst hy; exact h1
  ·intro hr j hj
   simp at hj
   subst hj
   rw [Nat.zero_add, Nat.mul_one, Nat.add_zero]
   exact hw n (by omega)
  ·unfold maxLen; omega
  ·omega
  ·intro hr
   rw [Nat.zero_add, Nat.mul_one]
   have hst := fM.stored hown hr u hbg
   exact h _ _ hst.1 (hst.2 hbg)
  ·intro hr v' w' o1 g1
   exact h v' w' (fM.fO (by
    refine ⟨o1.1, ?_⟩
    rcases o1.2 with h0 | ⟨g2, c2, cur, r1, r2, r3⟩
    ·exact .inl h0
    ·exact .inr ⟨g2, c2, cur, r1, by omega, r3⟩)) ((Below.refl _ _).grown g1 hbase (fun k hk => by cases hk))
theorem ug {P : Program} {w : World} (t ty e : TypeId) (z : Value) (bytes : Nat) (ht : P.underlying t = some (.slice e)) (hi : (P.info? e).map (fun i => (i.zero, i.size, i.bytes)) = some (some z, 1, bytes)) (hzs : z.cells.size = 1) (hby : bytes ≤ 64)
 (g' cap n : Nat) (xs : List Value) (hx : xs.length = n) (hcell : ∀ j u, xs[j]? = some u → w.cell? ⟨g', j, none⟩ = some u) (g c : Nat) (u : Value) (hb : ax w g e #[u]) (hr : cap < n + 1) (hn : n + 1 ≤ 1000000000) :
 ∃ v' w', (Builtin.append_ #[t, t] ty #[.slice (some ⟨g', 0, none⟩) n cap, .slice (some ⟨g, 0, none⟩) 1 c]).run P w = .ok v' w' ∧ w'.ownsRow w.heap.size e 1 v' (n + 1) (xs ++ [u]) ∧ w.grownBy w' none := by
 obtain ⟨i, hi0, hz0, hz1, hz2⟩ := info_parts hi
 have hbb : (n + 1) * bytes ≤ 1000000000 * 64 := Nat.mul_le_mul hn hby
 refine run_append_arg_grows (P := P) w t ty e i z 1 bytes ht hi0 hz0 hz1 hz2 hzs (by omega) ⟨g', 0, none⟩ n cap xs (by rw [hx, Nat.mul_one]) (fun j y hy => ?_) ⟨g, 0, none⟩ 1 c [u] rfl (fun j y hy => ?_) hr (by unfold maxLen; omega) (by omega)
 ·rw [show (⟨g', 0, none⟩ : Addr).add j = ⟨g', j, none⟩ by unfold Addr.add; split <;> simp_all]
  exact hcell j y hy
 ·match j, hy with
  | 0, hy => simp at hy; subst hy; simpa [Addr.add] using hb.cell 0
theorem zH {P : Program} {ops : Array Oper} {o : Oper} {a : Act} {w : World} {K : Act → World → Prop} {Q : Exit → Act → World → Prop} {E : Prop} (hgd : o.guard = none) (s x : Operand) (t : TypeId)
 (ho : o.op = .call { callee := .builtin .append, args := #[s, x], argTypes := #[t, t] })
 (base : Nat) (e : TypeId) (z : Value) (bytes : Nat) (ht : P.underlying t = some (.slice e)) (hi : (P.info? e).map (fun i => (i.zero, i.size, i.bytes)) = some (some z, 1, bytes))
 (hzs : z.cells.size = 1) (hby : bytes ≤ 64) (g' cap n : Nat) (xs : List Value) (hs : a.eval s = .slice (some ⟨g', 0, none⟩) n cap) (hown : fM w base (.slice (some ⟨g', 0, none⟩) n cap) n xs)
 (g c : Nat) (u : Value) (hx : a.eval x = .slice (some ⟨g, 0, none⟩) 1 c) (hb : ax w g e #[u]) (h1 : u.oneCell' = true) (hn : n + 1 ≤ 1000000000) (hbase : base ≤ w.heap.size)
 (h : ∀ v' w', fM w' base v' (n + 1) (xs ++ [u]) → Below base w w' → (∀ j, j < n → w'.cell? ⟨g', j, none⟩ = w.cell? ⟨g', j, none⟩) → K (a.put o.dst v') w') :
 if Region.wanted o (yielded ops a.tmps) = true then Oper.wp P o a w K Q else E := by
 have hw : Region.wanted o (yielded ops a.tmps) = true := by simp [Region.wanted, hgd]
 rw [if_pos hw]
 rcases hown.2 with ⟨h0, _⟩ | ⟨g0, cap0, h0, hbg, hlt, hnc, hc, hcell, hwr⟩
 ·cases h0
 ·injection h0 with h0 _ h2
  injection h0 with h0
  injection h0 with h0
  subst h0 h2
  by_cases hr : n + 1 ≤ cap
  ·obtain ⟨i, hi0, hz0, hz1, hz2⟩ := info_parts hi
   have hrun := run_append_room_cells (P := P) w t o.type e i ht hi0 g' 0 n cap ⟨g, 0, none⟩ 1 c [u] (by rw [hz1]; rfl) (fun j y hy => by
    match j, hy with
    | 0, hy => simp at hy; subst hy; simpa [Addr.add] using hb.cell 0) (fun y hy => by simp at hy; subst hy; exact h1) hr (fun j hj => by
     simp at hj; subst hj; rw [hz1, Nat.zero_add, Nat.mul_one, Nat.add_zero]; exact (hwr n (by omega)).1) (fun j hj => by
     simp at hj; subst hj; rw [hz1, Nat.zero_add, Nat.mul_one, Nat.add_zero]; exact (hwr n (by omega)).2)
   rw [hz1, Nat.zero_add, Nat.mul_one] at hrun
   have hst := fM.stored hown hr u hbg
   unfold Oper.wp
   simp [execOp, ho, resolve, invoke, builtin, hs, hx, hrun, Result.andThen]
   exact h _ _ hst.1 (hst.2 hbg) (fun j hj => World.cell?_setCell_other _ _ _ _ (fun e2 => by injection e2 with _ e2; omega))
  ·obtain ⟨v', w', hrun, o1, g1⟩ := ug (P := P) t o.type e z bytes ht hi hzs hby g' cap n xs hown.1 hcell g c u hb (by omega) hn
   unfold Oper.wp
   simp [execOp, ho, resolve, invoke, builtin, hs, hx, hrun, Result.andThen]
   refine h _ _ (fM.fO (by
    refine ⟨o1.1, ?_⟩
    rcases o1.2 with h0 | ⟨g2, c2, cur, r1, r2, r3⟩
    ·exact .inl h0
    ·exact .inr ⟨g2, c2, cur, r1, by omega, r3⟩)) ((Below.refl _ _).grown g1 hbase (fun k hk => by cases hk)) (fun j hj => ?_)
   exact World.cell?_of_block (a := ⟨g', j, none⟩) (g1.block g' hlt (by simp))
theorem fM.cellAt {w : World} {base n g cap : Nat} {xs : List Value} (h : fM w base (.slice (some ⟨g, 0, none⟩) n cap) n xs) (j : Nat) (u : Value) (hj : xs[j]? = some u) : w.cell? ⟨g, j, none⟩ = some u := by
 rcases h.2 with ⟨h0, _⟩ | ⟨g0, cap0, h0, _, _, _, _, hcell, _⟩
 ·cases h0
 ·injection h0 with h0 _ _
  injection h0 with h0
  injection h0 with h0
  subst h0
  exact hcell j u hj
theorem fM.form {w : World} {base n : Nat} {v : Value} {xs : List Value} (h : fM w base v n xs) (hn : 0 < n) : ∃ g cap, v = .slice (some ⟨g, 0, none⟩) n cap ∧ base ≤ g ∧ g < w.heap.size := by
 rcases h.2 with ⟨_, h0⟩ | ⟨g0, cap0, h0, hb, hlt, _⟩
 ·omega
 ·exact ⟨g0, cap0, h0, hb, hlt⟩
theorem fM.NC (w : World) (e : TypeId) (s : ByteArray) (base cap : Nat) (hb : base ≤ w.heap.size) (hcap : s.size ≤ cap) (hm : cap ≤ maxLen) :
 fM (w.drew.alloc (.cells (bytesRow s cap) e ((bytesRow s cap).size, (bytesRow s cap).size + 1))) base (.slice (some ⟨w.heap.size, 0, none⟩) s.size cap) s.size (s.data.toList.map fun b => Value.int .u8 (b.toNat : Int)) := by
 have hsz : (bytesRow s cap).size = cap := by
  have h0 : s.data.size = s.size := rfl
  unfold bytesRow
  rw [Array.size_append, Array.size_map, Array.size_replicate, h0]
  omega
 have hh : (w.drew.alloc (.cells (bytesRow s cap) e ((bytesRow s cap).size, (bytesRow s cap).size + 1))).heap[w.heap.size]? = some (.cells (bytesRow s cap) e ((bytesRow s cap).size, (bytesRow s cap).size + 1)) := heap_alloc_new w.drew _
 refine ⟨by rw [List.length_map, Array.length_toList]; rfl, .inr ⟨w.heap.size, cap, rfl, hb, by simp, hcap, hm, fun j u hu => ?_, fun j hj => ⟨?_, ?_⟩⟩⟩
 ·rw [cell_of_row _ _ _ _ _ _ hh]
  rw [List.getElem?_map] at hu
  have hj : j < s.data.size := by
   rcases Nat.lt_or_ge j s.data.toList.length with h | h
   ·simpa using h
   ·rw [List.getElem?_eq_none h] at hu; cases hu
  rw [Array.getElem?_toList, Array.getElem?_eq_getElem hj] at hu
  simp only [Option.map_some, Option.some.injEq] at hu
  subst hu
  have hj' : j < s.size := hj
  simp [bytesRow, Array.getElem?_append, hj']
 ·rw [cell_of_row _ _ _ _ _ _ hh, Array.getElem?_eq_getElem (by omega)]; rfl
 ·have e2 : (w.drew.alloc (.cells (bytesRow s cap) e ((bytesRow s cap).size, (bytesRow s cap).size + 1))).frozen? ⟨w.heap.size, j, none⟩ = (decide ((bytesRow s cap).size ≤ j) && decide (j < (bytesRow s cap).size + 1)) := by
   simp only [World.frozen?]
   rw [hh]
  rw [e2, hsz]
  have h3 : decide (cap ≤ j) = false := by simpa using hj
  rw [h3]
  rfl
end
section
end
section
open Go.RowKit Go.ChangeShapes Go.WideShapes
section
variable {H : Type} {enc : TypeId × Value → H} {P : Program} {w : World} {base : Nat} {spare : Nat → Bool} {held : Bool} {t tk e : TypeId}
abbrev aQ (q : IntKind) := {z : Int // (Lit.int q z).wf = true}
def aR (q : IntKind) (x : aS × aQ q) : List Value := ak x.1 ++ [.int q x.2.1]
def dR (q : IntKind) (x : aQ q × aS) : List Value := .int q x.1.1 :: ak x.2
theorem fT (q : IntKind) (x : aS × aQ q) : (aR q x).length = 33 := by unfold aR; rw [List.length_append, aC]; rfl
theorem fU (q : IntKind) (x : aQ q × aS) : (dR q x).length = 33 := by unfold dR; rw [List.length_cons, aC]
theorem vT (q : IntKind) (x : aS × aQ q) : ∀ v ∈ aR q x, v.oneCell' = true := by
 intro v hv
 rcases List.mem_append.1 hv with h | h
 ·exact fI _ v h
 ·rw [List.mem_singleton.1 h]; rfl
theorem qP (q : IntKind) (x : aQ q × aS) : ∀ v ∈ dR q x, v.oneCell' = true := by
 intro v hv
 rcases List.mem_cons.1 hv with h | h
 ·rw [h]; rfl
 ·exact fI _ v h
structure dX where
 exp : aQ .u32
 ins : List (aS × aQ .u32)
 outs : List (aQ .i64 × aS)
 anchor : aS
 av : List aS
 notes : List aS
 dW : aQ .i64
def bf (T : dX) (Ai : Option Addr) (ci : Nat) (Ao : Option Addr) (co : Nat) (An : Option Addr) (cn : Nat) (At : Option Addr) (ct : Nat) : List Value :=
 .int .u32 T.exp.1 :: .slice Ai T.ins.length ci :: .slice Ao T.outs.length co :: (ak T.anchor ++ [.slice An T.av.length cn, .slice At T.notes.length ct, .int .i64 T.dW.1])
structure wm (w : World) (B : Nat) (T : dX) (Ai : Option Addr) (ci : Nat) (Ao : Option Addr) (co : Nat) (An : Option Addr) (cn : Nat) (At : Option Addr) (ct : Nat) : Prop where
 ins : aK (aR .u32) 33 w B Ai ci T.ins
 outs : aK (dR .i64) 33 w B Ao co T.outs
 av : aK ak 32 w B An cn T.av
 notes : aK ak 32 w B At ct T.notes
theorem wm.below {w' : World} {B : Nat} {T : dX} {Ai Ao An At : Option Addr} {ci co cn ct : Nat} (h : wm w B T Ai ci Ao co An cn At ct) (hb : Below B w w') : wm w' B T Ai ci Ao co An cn At ct :=
 ⟨h.ins.below hb, h.outs.below hb, h.av.below hb, h.notes.below hb⟩
theorem wm.more {B B' : Nat} {T : dX} {Ai Ao An At : Option Addr} {ci co cn ct : Nat} (h : wm w B T Ai ci Ao co An cn At ct) (hB : B ≤ B') : wm w B' T Ai ci Ao co An cn At ct :=
 ⟨h.ins.more hB, h.outs.more hB, h.av.more hB, h.notes.more hB⟩
end
end
section
open Go.RowKit
section
variable {P : Program} (w : World) {t tk ti e : TypeId} {q : IntKind} {f0 f1 : Field}
theorem xV (d : Nat) {n : Nat} (ht : P.underlying t = some (.array n e)) (hu : P.underlying e = some (.int .u8)) (hc : P.cellsOf e = 1) (l m : List UInt8) (hl : l.length = n) (hm : m.length = n) :
 (Op.equalIn (d + 2) t (.agg (ay l)) (.agg (ay m))).run P w = .ok (decide (l = m)) w := by
 obtain ⟨i, hi⟩ := info_of_underlying hu
 rw [show d + 2 = (d + 1) + 1 from rfl, run_equalIn_array w (d + 1) _ _ ht hi, hc, jm w d hu l m _ (fun j hj => by rw [List.mem_range] at hj; omega), ← hl, all_range_eq l m (by omega)]
theorem nX (hk : P.underlying tk = some (.array 32 e)) (hct : P.cellsOf tk = 32) (cs : Array Value) (off : Nat) : (part tk cs off).run P w = .ok (.agg (cs.extract off (off + 32))) w := by
 obtain ⟨i, hi⟩ := info_of_underlying hk
 simp [part, isAgg, run_underlying hk, run_sizeOf w hi, hct]
theorem nY (hi : P.underlying ti = some (.int q)) (cs : Array Value) (off : Nat) (v : Value) (hv : cs[off]? = some v) : (part ti cs off).run P w = .ok v w :=
 run_part_plain w (by simp [Program.plainKey, hi]) hv
theorem ko (x : aS × aQ q) : (aR q x).toArray.extract 0 32 = ay x.1.1 := by
 rw [← dQ]
 apply Array.toList_inj.1
 have hl := aC x.1
 simp [aR, hl]
theorem sI (x : aS × aQ q) : (aR q x).toArray[32]? = some (.int q x.2.1) := by
 have hl := aC x.1
 simp [aR, hl]
theorem JG (hs : P.underlying t = some (.struct #[f0, f1])) (hp : P.stoodInHeld t = false) (n0 : f0.name ≠ "_") (n1 : f1.name ≠ "_") (o0 : f0.offset = 0) (o1 : f1.offset = 32) (t0 : f0.type = tk) (t1 : f1.type = ti)
 (hk : P.underlying tk = some (.array 32 e)) (he : P.underlying e = some (.int .u8)) (hc : P.cellsOf e = 1) (hct : P.cellsOf tk = 32) (hi : P.underlying ti = some (.int q)) (x y : aS × aQ q) :
 (Op.equalIn 10000 t (.agg (aR q x).toArray) (.agg (aR q y).toArray)).run P w = .ok (decide (x = y)) w := by
 have hf : P.fieldsOf t = #[f0, f1] := by simp [Program.fieldsOf, hs]
 have e1 : (Op.equalIn 9999 tk (.agg (ay x.1.1)) (.agg (ay y.1.1))).run P w = .ok (decide (x.1.1 = y.1.1)) w := xV w 9997 hk he hc x.1.1 y.1.1 x.1.2 y.1.2
 have e2 : (Op.equalIn 9999 ti (.int q x.2.1) (.int q y.2.1)).run P w = .ok (x.2.1 == y.2.1) w := run_equalIn_int (P := P) w 9998 ti q q x.2.1 y.2.1 hi
 have px : (part tk (aR q x).toArray 0).run P w = .ok (.agg (ay x.1.1)) w := by rw [nX w hk hct, ko]
 have py : (part tk (aR q y).toArray 0).run P w = .ok (.agg (ay y.1.1)) w := by rw [nX w hk hct, ko]
 have qx := nY w hi (aR q x).toArray 32 _ (sI x)
 have qy := nY w hi (aR q y).toArray 32 _ (sI y)
 subst t0 t1
 rw [show 10000 = 9999 + 1 from rfl, run_equalIn_struct w 9999 t _ _ (by rw [hf]; exact hs) hp, hf]
 have hxy : x = y ↔ x.1.1 = y.1.1 ∧ x.2.1 = y.2.1 := ⟨fun h => h ▸ ⟨rfl, rfl⟩, fun h => Prod.ext (Subtype.ext h.1) (Subtype.ext h.2)⟩
 have hd : decide (x = y) = (decide (x.1.1 = y.1.1) && (x.2.1 == y.2.1)) := by
  rw [Bool.eq_iff_iff, decide_eq_true_iff, hxy, Bool.and_eq_true, decide_eq_true_iff, beq_iff_eq]
 rw [hd]
 generalize decide (x.1.1 = y.1.1) = b1 at e1 ⊢
 generalize (x.2.1 == y.2.1) = b2 at e2 ⊢
 cases b1 <;> cases b2 <;> simp [Op.eqFields, n0, n1, o0, o1, px, py, qx, qy, e1, e2]
end
end
section
open Go.RowKit
section
variable {w : World} {g o : Nat} {a b : List Value}
theorem au.left (h : au w g o (a ++ b)) : au w g o a := fun j u hj => h j u (by rw [List.getElem?_append_left (List.getElem?_eq_some_iff.1 hj).1]; exact hj)
theorem au.right (h : au w g o (a ++ b)) : au w g (o + a.length) b := fun j u hj => by
 have := h (a.length + j) u (by rw [List.getElem?_append_right (by omega), Nat.add_sub_cancel_left]; exact hj)
 rwa [← Nat.add_assoc] at this
theorem au.head {v : Value} (h : au w g o (v :: b)) : w.cell? ⟨g, o, none⟩ = some v := h 0 v rfl
theorem au.tail {v : Value} (h : au w g o (v :: b)) : au w g (o + 1) b := fun j u hj => by
 have := h (j + 1) u (by simpa using hj)
 rwa [Nat.add_comm j 1, ← Nat.add_assoc] at this
theorem au.ko {q : IntKind} {x : aS × aQ q} (h : au w g o (aR q x)) : au w g o (ak x.1) := h.left
theorem au.sI {q : IntKind} {x : aS × aQ q} (h : au w g o (aR q x)) : w.cell? ⟨g, o + 32, none⟩ = some (.int q x.2.1) := by
 have := h.right
 rw [aC] at this
 exact this.head
theorem au.GR {q : IntKind} {x : aQ q × aS} (h : au w g o (dR q x)) : w.cell? ⟨g, o, none⟩ = some (.int q x.1.1) := h.head
theorem au.Vr {q : IntKind} {x : aQ q × aS} (h : au w g o (dR q x)) : au w g (o + 1) (ak x.2) := h.tail
variable {T : dX} {Ai Ao An At : Option Addr} {ci co cn ct : Nat}
theorem Dv : (bf T Ai ci Ao co An cn At ct).length = 38 := by simp [bf, aC]
theorem vw (h : au w g o (bf T Ai ci Ao co An cn At ct)) : au w g (o + 3) (ak T.anchor) := by
 have h1 := (h.tail.tail.tail).left
 exact h1
theorem vv (h : au w g o (bf T Ai ci Ao co An cn At ct)) : au w g (o + 35) [.slice An T.av.length cn, .slice At T.notes.length ct, .int .i64 T.dW.1] := by
 have h1 := (h.tail.tail.tail).right
 rw [aC] at h1
 exact h1
theorem F5 (h : au w g o (bf T Ai ci Ao co An cn At ct)) : w.cell? ⟨g, o, none⟩ = some (.int .u32 T.exp.1) := h.head
theorem rW (h : au w g o (bf T Ai ci Ao co An cn At ct)) : w.cell? ⟨g, o + 1, none⟩ = some (.slice Ai T.ins.length ci) := h.tail.head
theorem nU (h : au w g o (bf T Ai ci Ao co An cn At ct)) : w.cell? ⟨g, o + 2, none⟩ = some (.slice Ao T.outs.length co) := h.tail.tail.head
theorem lG (h : au w g o (bf T Ai ci Ao co An cn At ct)) : w.cell? ⟨g, o + 35, none⟩ = some (.slice An T.av.length cn) := (vv h).head
theorem lH (h : au w g o (bf T Ai ci Ao co An cn At ct)) : w.cell? ⟨g, o + 36, none⟩ = some (.slice At T.notes.length ct) := (vv h).tail.head
theorem F6 (h : au w g o (bf T Ai ci Ao co An cn At ct)) : w.cell? ⟨g, o + 37, none⟩ = some (.int .i64 T.dW.1) := (vv h).tail.tail.head
variable {t : TypeId}
theorem Ry (k : List Value) (b : List Value) (i : Nat) (v : Value) : (k ++ b).set (k.length + i) v = k ++ b.set i v := by
 rw [List.set_append, if_neg (by omega), Nat.add_sub_cancel_left]
theorem FZ (z : aQ .u32) : (bf T Ai ci Ao co An cn At ct).toArray.setIfInBounds 0 (.int .u32 z.1) = (bf { T with exp := z } Ai ci Ao co An cn At ct).toArray := by simp [bf]
theorem FY (l : List (aS × aQ .u32)) (A : Option Addr) (c : Nat) : (bf T Ai ci Ao co An cn At ct).toArray.setIfInBounds 1 (.slice A l.length c) = (bf { T with ins := l } A c Ao co An cn At ct).toArray := by simp [bf]
theorem Du (l : List (aQ .i64 × aS)) (A : Option Addr) (c : Nat) : (bf T Ai ci Ao co An cn At ct).toArray.setIfInBounds 2 (.slice A l.length c) = (bf { T with outs := l } Ai ci A c An cn At ct).toArray := by simp [bf]
theorem vo (i : Nat) (v : Value) : (bf T Ai ci Ao co An cn At ct).toArray.setIfInBounds (35 + i) v = (.int .u32 T.exp.1 :: .slice Ai T.ins.length ci :: .slice Ao T.outs.length co :: (ak T.anchor ++ [Value.slice An T.av.length cn, .slice At T.notes.length ct, .int .i64 T.dW.1].set i v)).toArray := by
 rw [List.setIfInBounds_toArray]
 unfold bf
 rw [show 35 + i = (ak T.anchor).length + i + 1 + 1 + 1 by rw [aC]; omega, List.set_cons_succ, List.set_cons_succ, List.set_cons_succ, Ry]
theorem BL (l : List aS) (A : Option Addr) (c : Nat) : (bf T Ai ci Ao co An cn At ct).toArray.setIfInBounds 35 (.slice A l.length c) = (bf { T with av := l } Ai ci Ao co A c At ct).toArray := vo 0 _
theorem BM (l : List aS) (A : Option Addr) (c : Nat) : (bf T Ai ci Ao co An cn At ct).toArray.setIfInBounds 36 (.slice A l.length c) = (bf { T with notes := l } Ai ci Ao co An cn A c).toArray := vo 1 _
theorem F4 (z : aQ .i64) : (bf T Ai ci Ao co An cn At ct).toArray.setIfInBounds 37 (.int .i64 z.1) = (bf { T with dW := z } Ai ci Ao co An cn At ct).toArray := vo 2 _
def jl : dX := ⟨⟨0, by decide⟩, [], [], ⟨List.replicate 32 0, by simp⟩, [], [], ⟨0, by decide⟩⟩
end
end
section
open Go.RowKit Go.ChangeShapes Go.WideShapes
end
section
def dI (a : Int) : Bool := decide (0 ≤ a ∧ a ≤ 2100000000000000)
theorem gU {a : Int} (h : dI a = true) : 0 ≤ a ∧ a ≤ 2100000000000000 := by simpa [dI] using h
theorem SN {a : Int} (h : dI a = false) : a < 0 ∨ 2100000000000000 < a := by
 have : ¬ (0 ≤ a ∧ a ≤ 2100000000000000) := by simpa [dI] using h
 omega
theorem qK {a : Int} (h : 0 ≤ a ∧ a ≤ 2100000000000000) : dI a = true := by simpa [dI] using h
def aaX (t a : Int) : Option Int := if dI t && dI a && dI (t + a) then some (t + a) else none
def rX (t a : Int) : Option Int := if dI t && dI a && dI (t - a) then some (t - a) else none
def gI : Int → List Int → Option Int
 | t, [] => some t
 | t, a :: l => match aaX t a with
  | some s => gI s l
  | none => none
theorem iM {t a s : Int} (h : aaX t a = some s) : dI t = true ∧ dI a = true ∧ dI s = true ∧ s = t + a := by
 unfold aaX at h
 split at h
 ·rename_i h'
  simp only [Bool.and_eq_true] at h'
  injection h with h
  subst h
  exact ⟨h'.1.1, h'.1.2, h'.2, rfl⟩
 ·cases h
theorem LK {t a : Int} (ht : dI t = true) (h : aaX t a = none) : dI a = false ∨ (dI a = true ∧ dI (t + a) = false) := by
 unfold aaX at h
 split at h
 ·cases h
 ·rename_i h'
  cases ha : dI a
  ·exact .inl rfl
  ·refine .inr ⟨rfl, ?_⟩
   cases hs : dI (t + a)
   ·rfl
   ·simp [ht, ha, hs] at h'
theorem qF {t a s : Int} (h : rX t a = some s) : dI t = true ∧ dI a = true ∧ dI s = true ∧ s = t - a := by
 unfold rX at h
 split at h
 ·rename_i h'
  simp only [Bool.and_eq_true] at h'
  injection h with h
  subst h
  exact ⟨h'.1.1, h'.1.2, h'.2, rfl⟩
 ·cases h
theorem Jv {t a : Int} (h : rX t a = none) : dI t = false ∨ dI a = false ∨ dI (t - a) = false := by
 unfold rX at h
 split at h
 ·cases h
 ·rename_i h'
  cases ht : dI t
  ·exact .inl rfl
  cases ha : dI a
  ·exact .inr (.inl rfl)
  cases hs : dI (t - a)
  ·exact .inr (.inr rfl)
  ·simp [ht, ha, hs] at h'
theorem DC : ∀ (l : List Int) (t n : Int), dI t = true → gI t l = some n → dI n = true
 | [], t, n, ht, h => by simp only [gI, Option.some.injEq] at h; subst h; exact ht
 | a :: l, t, n, ht, h => by
  simp only [gI] at h
  cases hs : aaX t a with
  | none => simp [hs] at h
  | some s => rw [hs] at h; exact DC l s n (iM hs).2.2.1 h
theorem mE : ∀ (l m : List Int) (t : Int), gI t (l ++ m) = (gI t l).bind fun s => gI s m
 | [], m, t => rfl
 | a :: l, m, t => by
  simp only [List.cons_append, gI]
  cases aaX t a with
  | none => rfl
  | some s => exact mE l m s
theorem Ju (l : List Int) (a t s : Int) (h : gI t l = some s) : gI t (l ++ [a]) = aaX s a := by
 rw [mE, h]
 show gI s [a] = _
 simp only [gI]
 cases aaX s a <;> rfl
theorem xP {l : List Int} {t : Int} {k : Nat} (h : gI t (l.take k) = none) : gI t l = none := by
 rw [← List.take_append_drop k l, mE, h]; rfl
def Tk (a b : List Int) (dW : Int) : Option Int :=
 match gI 0 a, gI 0 b with
 | some x, some y => if 0 ≤ dW then (aaX x dW).bind fun s => rX s y else (aaX y (-dW)).bind fun s => rX x s
 | _, _ => none
def Ba : List PanicEntry := [{ v := .iface 30 (.int .i64 20), recovered := false }]
def Hg : Option Int → Ending
 | some n => .returned (.int .i64 n)
 | none => .panicked Ba
def FV (o : Option Int) : Int := o.getD 0
def yZ : Option Int → Int
 | some _ => 0
 | none => 20
def mY (o : Option Int) : Value := .tuple #[.int .i64 (FV o), .int .i64 (yZ o)]
end
section
open Go.RowKit
theorem SL (a : Int) (h : dI a = true) (w : World) : Calls Tryz.prog 334 #[.int .i64 a] w fun e w' => e = .returned (.bool true) ∧ w = w' := by
 obtain ⟨h1, h2⟩ := gU h
 clear h
 go_enter Tryz.func334, Tryz.ntmps334
 go_wp2
 go_ret
 exact ⟨rfl, rfl⟩
theorem Vn (a : Int) (h : dI a = false) (w : World) : Calls Tryz.prog 334 #[.int .i64 a] w fun e w' => e = .returned (.bool false) ∧ w = w' := by
 by_cases h0 : a < 0
 ·clear h
  go_enter Tryz.func334, Tryz.ntmps334
  go_wp2
  go_ret
  exact ⟨rfl, rfl⟩
 ·have h1 := (SN h).resolve_left h0
  have h2 : 0 ≤ a := by omega
  have hd : decide (a ≤ 2100000000000000) = false := by simp; omega
  clear h h0
  go_enter Tryz.func334, Tryz.ntmps334
  go_wp2
  go_ret
  exact ⟨rfl, rfl⟩
theorem jY (a : Int) (h : dI a = true) (w : World) : Calls Tryz.prog 311 #[.int .i64 a] w fun e w' => e = .returned (.int .i64 a) ∧ w = w' := by
 go_enter Tryz.func311, Tryz.ntmps311
 go_wp2_with fail
 refine (SL a h _).mono ?_
 rintro e w' ⟨rfl, rfl⟩
 go_wp2
 go_ret
 exact ⟨rfl, rfl⟩
theorem uA (a : Int) (h : dI a = false) (w : World) : Calls Tryz.prog 311 #[.int .i64 a] w fun e w' => e = .panicked Ba ∧ w = w' := by
 go_enter Tryz.func311, Tryz.ntmps311
 go_wp2_with fail
 refine (Vn a h _).mono ?_
 rintro e w' ⟨rfl, rfl⟩
 go_wp2
 exact ⟨rfl, rfl, rfl⟩
theorem Ko (a b s : Int) (h : rX a b = some s) (w : World) : Calls Tryz.prog 269 #[.int .i64 a, .int .i64 b] w fun e w' => e = .returned (.int .i64 s) ∧ w = w' := by
 obtain ⟨h1, h2, h3, rfl⟩ := qF h
 obtain ⟨g1, g2⟩ := gU h1
 obtain ⟨g3, g4⟩ := gU h2
 clear h
 go_enter Tryz.func269, Tryz.ntmps269
 go_wp2_with fail
 refine (jY a h1 _).mono ?_
 rintro e w' ⟨rfl, rfl⟩
 go_wp2_with fail
 refine (jY b h2 _).mono ?_
 rintro e w' ⟨rfl, rfl⟩
 go_wp2_with fail
 refine (jY (a - b) h3 _).mono ?_
 rintro e w' ⟨rfl, rfl⟩
 go_wp2
 go_ret
 exact ⟨rfl, rfl⟩
theorem Kr (a b : Int) (h : rX a b = none) (w : World) : Calls Tryz.prog 269 #[.int .i64 a, .int .i64 b] w fun e w' => e = .panicked Ba ∧ w = w' := by
 have hs := Jv h
 clear h
 go_enter Tryz.func269, Tryz.ntmps269
 go_wp2_with fail
 by_cases h1 : dI a = true
 ·have H1 := qh h1
  refine (jY a h1 _).mono ?_
  clear h1
  rintro e w' ⟨rfl, rfl⟩
  go_wp2_with fail
  by_cases h2 : dI b = true
  ·obtain ⟨g1, g2⟩ := gU H1.out
   obtain ⟨g3, g4⟩ := gU h2
   have h3 := (hs.resolve_left (by simp [H1.out])).resolve_left (by simp [h2])
   refine (jY b h2 _).mono ?_
   clear h2 hs
   rintro e w' ⟨rfl, rfl⟩
   have H3 := qh h3
   clear h3
   go_wp2_with fail
   refine (uA (a - b) H3.out _).mono ?_
   rintro e w' ⟨rfl, rfl⟩
   exact ⟨rfl, rfl, rfl⟩
  ·refine (uA b (by simpa using h2) _).mono ?_
   rintro e w' ⟨rfl, rfl⟩
   exact ⟨rfl, rfl, rfl⟩
 ·refine (uA a (by simpa using h1) _).mono ?_
  rintro e w' ⟨rfl, rfl⟩
  exact ⟨rfl, rfl, rfl⟩
def ints (zs : List Int) : List Value := zs.map (.int .i64)
theorem uF (zs : List Int) : (ints zs).length = zs.length := List.length_map _
theorem ints_at {w : World} {B n : Nat} {A : Option Addr} {zs : List Int} {k : Nat} (h : Reads w B 1 A n (ints zs)) (hk : k < n) :
 ∃ ad, A = some ad ∧ w.cell? (ad.add k) = some (.int .i64 (zs.getD k 0)) := by
 obtain ⟨ad, u, e, _, hu, hc⟩ := h.at_ hk
 refine ⟨ad, e, ?_⟩
 have hl : k < zs.length := by have := h.1; rw [uF] at this; omega
 rw [hc]
 rw [ints, List.getElem?_map, List.getElem?_eq_getElem hl] at hu
 simp only [Option.map_some, Option.some.injEq] at hu
 rw [← hu, List.getD_eq_getElem?_getD, List.getElem?_eq_getElem hl]; rfl
theorem Ga (zs : List Int) (k : Nat) (hk : k < zs.length) : zs.take (k + 1) = zs.take k ++ [zs.getD k 0] := by
 rw [List.take_succ_eq_append_getElem hk, List.getD_eq_getElem?_getD, List.getElem?_eq_getElem hk]; rfl
theorem Eo (zs : List Int) (A : Option Addr) (n cap B : Nat) (w : World) (hr : Reads w B 1 A n (ints zs)) (hm : n ≤ maxLen) :
 Calls Tryz.prog 268 #[.slice A n cap] w fun e w' => e = Hg (gI 0 zs) ∧ w = w' := by
 have hlen : zs.length = n := by have := hr.1; rw [uF] at this; omega
 unfold maxLen at hm
 have HR := qh hr
 have HL := qh hlen
 clear hr hlen
 go_enter Tryz.func268, Tryz.ntmps268
 go_wp2
 go_loop [3, 8] (fun t i => ∃ k : Nat, k ≤ n ∧ i = .int .i64 k ∧ ∃ s : Int, t = .int .i64 s ∧ Hid (gI 0 (zs.take k) = some s)) (fun _ i => n - (intOf i).toNat)
 case atStart => exact ⟨0, Nat.zero_le _, rfl, 0, rfl, qh rfl⟩
 case round =>
  obtain ⟨k, hk, rfl, s, rfl, HS⟩ := hrel
  by_cases hlt : k < n
  ·obtain ⟨ad, rfl, hc⟩ := ints_at HR.out hlt
   have hsn := qh ((congrArg (gI 0) (Ga zs k (by have := HL.out; omega))).trans (Ju (zs.take k) (zs.getD k 0) 0 s HS.out))
   have g1 := gU (DC _ 0 s (by decide) HS.out)
   obtain ⟨x, hx⟩ : ∃ x, zs.getD k 0 = x := ⟨_, rfl⟩
   rw [hx] at hsn hc
   clear hx
   go_wp2_with fail
   cases ha : aaX s x with
   | some s2 =>
    obtain ⟨_, h2, h3, he⟩ := iM ha
    subst he
    have g2 := gU h2
    have HA := qh ha
    clear ha
    refine (jY x h2 _).mono ?_
    rintro e w' ⟨rfl, rfl⟩
    clear h2
    go_wp2_with fail
    refine (jY (s + x) h3 _).mono ?_
    rintro e w' ⟨rfl, rfl⟩
    clear h3
    go_wp2
    go_round
    case rel => exact ⟨k + 1, by omega, by go_num, s + x, rfl, qh (by rw [hsn.out, HA.out])⟩
    case measure => simp [intOf]; omega
   | none =>
    have hnone : gI 0 zs = none := xP (k := k + 1) (by rw [hsn.out, ha])
    have hh := LK (qK g1) ha
    have HN := qh hnone
    clear ha hnone
    by_cases h2 : dI x = true
    ·have h3 := (hh.resolve_left (by simp [h2])).2
     have g2 := gU h2
     have H3 := qh h3
     clear h3 hh
     refine (jY x h2 _).mono ?_
     rintro e w' ⟨rfl, rfl⟩
     clear h2
     go_wp2_with fail
     refine (uA (s + x) H3.out _).mono ?_
     rintro e w' ⟨rfl, rfl⟩
     exact ⟨rfl, by rw [HN.out]; rfl, rfl⟩
    ·refine (uA x (by simpa using h2) _).mono ?_
     rintro e w' ⟨rfl, rfl⟩
     exact ⟨rfl, by rw [HN.out]; rfl, rfl⟩
  ·have hkn := qh (show zs.take k = zs from List.take_of_length_le (by have := HL.out; omega))
   go_wp2
   go_ret
   exact ⟨by rw [← hkn.out, HS.out]; rfl, rfl⟩
end
section
open Go.RowKit
theorem Qr (v : Value) (w : World) : (Instr.typeAssert (.iface 30 v) 20 30 false).run Tryz.prog w = .ok v w := by kernel_rfl
theorem Hz (p q : Addr) (w : World) :
 CallsD Tryz.prog 310 #[.pointer (some p), .pointer (some q)] .returning w fun e u' w' => e = .returned (.tuple #[]) ∧ u' = .returning ∧ w' = w := by
 refine callsD_of_wpS Tryz.func310 rfl fun c₀ cs hu => ?_
 apply wpS_seq
 apply wpS_region
 simp [wpOpsS, go_sem, recoverD, hu, Tryz.ntmps310, Exit.thenS]
 apply wpS_seq
 apply wpS_region
 simp [wpOpsS, go_sem, Exit.thenS]
 refine wpS_cond (t := false) (by simp [Act.eval, Array.replicate]) ?_
 simp only [Bool.false_eq_true, if_false]
 refine wpS_of_wp (wp_skip ?_)
 cases c₀
 simp_all [bodyPostS, results, Tryz.results310]
theorem wX (p q : Addr) (w : World) (hp : w.cell? p = some (.int .i64 0)) (hpz : w.frozen? p = false) (hq : w.cell? q = some (.int .i64 0)) (hqz : w.frozen? q = false) (hpq : p ≠ q) :
 CallsD Tryz.prog 310 #[.pointer (some p), .pointer (some q)] (.panicking Ba) w fun e u' w' =>
  e = .returned (.tuple #[]) ∧ u' = .panicking [{ v := .iface 30 (.int .i64 20), recovered := true }] ∧ w' = ((w.setCell p (.int .i64 0)).setCell q (.int .i64 20)).drew := by
 refine callsD_of_wpS Tryz.func310 rfl fun c₀ cs hu => ?_
 apply wpS_seq
 apply wpS_region
 simp [wpOpsS, go_sem, recoverD, hu, Ba, Tryz.ntmps310, Exit.thenS]
 apply wpS_seq
 apply wpS_region
 simp [wpOpsS, go_sem, Exit.thenS]
 refine wpS_cond (t := true) (by simp [Act.eval, Array.replicate]) ?_
 simp only [if_true]
 refine wpS_of_wp ?_
 have has := Qr
 simp only [Array.replicate, List.replicate, List.append_toArray, List.cons_append, List.nil_append, List.setIfInBounds_toArray, List.set_cons_succ, List.set_cons_zero]
 go_region
 all_goals simp [bodyPostS, results, Tryz.results310]
theorem Ql {w w2 : World} (b2 : Below ((w.alloc (.cells #[.int .i64 0] 2)).alloc (.cells #[.int .i64 0] 30)).heap.size ((w.alloc (.cells #[.int .i64 0] 2)).alloc (.cells #[.int .i64 0] 30)) w2) :
 ax w2 w.heap.size 2 #[.int .i64 0] ∧ ax w2 (w.heap.size + 1) 30 #[.int .i64 0] ∧ Below w.heap.size w w2 :=
 ⟨aa b2 ((ax.new w _ _).alloc _) (by simp; omega), aa b2 (bg _ _ (by simp)) (by simp), (((Below.refl _ _).alloc (Nat.le_refl _) _).alloc (by simp) _).trans (b2.mono (by simp; omega))⟩
theorem Jp (g : FuncId) (caps : Array Value) (n : Int) (w : World) (hen : ∀ W, (callFunc g caps).run Tryz.prog W = .ok (.enter g caps) W)
 (hf : ∀ w1, Below w.heap.size w w1 → Calls Tryz.prog g caps w1 fun e w' => e = .returned (.int .i64 n) ∧ Below w1.heap.size w1 w') :
 Calls Tryz.prog 266 #[.func (.func g) #[] caps] w fun e w' => e = .returned (mY (some n)) ∧ Below w.heap.size w w' := by
 have ED : ∀ (fn : Fn) (first cap : Array Value) (w : World), (Instr.makeFunc fn first cap).run Tryz.prog w = .ok (.func fn first cap) w := fun _ _ _ _ => rfl
 have HF := qh hf
 clear hf
 go_enter_defers Tryz.func266, Tryz.ntmps266
 go_wp2_with fail
 refine (HF.out _ (((Below.refl _ _).alloc (Nat.le_refl _) _).alloc (by simp) _)).mono ?_
 rintro e w2 ⟨rfl, b2⟩
 obtain ⟨k0, k1, B⟩ := Ql b2
 have c0 := k0.cell 0
 have z0 := k0.frozen 0
 have c1 := k1.cell 0
 have z1 := k1.frozen 0
 have K0 := qh k0
 have K1 := qh k1
 have BB := qh B
 clear k0 k1 B b2
 simp only [List.getElem?_toArray, List.getElem?_cons_zero] at c0 c1
 go_wp2
 refine leaves_cons (f := 310) (args := #[.pointer (some ⟨w.heap.size, 0, none⟩), .pointer (some ⟨w.heap.size + 1, 0, none⟩)]) (by simp) (by simp [go_sem]) ?_
 refine (Hz ⟨w.heap.size, 0, none⟩ ⟨w.heap.size + 1, 0, none⟩ _).mono ?_
 rintro e u' w'' ⟨rfl, rfl, rfl⟩
 have B3 := (BB.out.setCell (p := ⟨w.heap.size, 0, none⟩) (Nat.le_refl _) (.int .i64 n)).setCell (p := ⟨w.heap.size + 1, 0, none⟩) (by simp) (.int .i64 0)
 simp [Leaves, settle, results, Tryz.results266, go_sem, mY, FV, yZ, c0, c1, B3]
theorem told_none (g : FuncId) (caps : Array Value) (w : World) (hen : ∀ W, (callFunc g caps).run Tryz.prog W = .ok (.enter g caps) W)
 (hf : ∀ w1, Below w.heap.size w w1 → Calls Tryz.prog g caps w1 fun e w' => e = .panicked Ba ∧ Below w1.heap.size w1 w') :
 Calls Tryz.prog 266 #[.func (.func g) #[] caps] w fun e w' => e = .returned (mY none) ∧ Below w.heap.size w w' := by
 have ED : ∀ (fn : Fn) (first cap : Array Value) (w : World), (Instr.makeFunc fn first cap).run Tryz.prog w = .ok (.func fn first cap) w := fun _ _ _ _ => rfl
 have HF := qh hf
 clear hf
 go_enter_defers Tryz.func266, Tryz.ntmps266
 go_wp2_with fail
 refine (HF.out _ (((Below.refl _ _).alloc (Nat.le_refl _) _).alloc (by simp) _)).mono ?_
 rintro e w2 ⟨rfl, b2⟩
 obtain ⟨k0, k1, B⟩ := Ql b2
 have c0 := k0.cell 0
 have z0 := k0.frozen 0
 have c1 := k1.cell 0
 have z1 := k1.frozen 0
 have K0 := qh k0
 have K1 := qh k1
 have BB := qh B
 clear k0 k1 B b2
 simp only [List.getElem?_toArray, List.getElem?_cons_zero] at c0 c1
 refine leaves_cons (f := 310) (args := #[.pointer (some ⟨w.heap.size, 0, none⟩), .pointer (some ⟨w.heap.size + 1, 0, none⟩)]) (by simp) (by simp [go_sem]) ?_
 refine (wX ⟨w.heap.size, 0, none⟩ ⟨w.heap.size + 1, 0, none⟩ _ c0 z0 c1 z1 (by simp)).mono ?_
 rintro e u' w'' ⟨rfl, rfl, rfl⟩
 have B3 := ((BB.out.setCell (p := ⟨w.heap.size, 0, none⟩) (Nat.le_refl _) (.int .i64 0)).setCell (p := ⟨w.heap.size + 1, 0, none⟩) (by simp) (.int .i64 20)).drew
 simp [Leaves, settle, results, Tryz.results266, go_sem, mY, FV, yZ, c0, c1, B3]
end
section
open Go.RowKit
theorem JL {w : World} {g B n : Nat} {t : TypeId} {zs : List Int} (h : ax w g t (ints zs).toArray) (hB : g < B) (hn : n = zs.length) : Reads w B 1 (some ⟨g, 0, none⟩) n (ints zs) :=
 ⟨by rw [uF, hn]; omega, fun _ => ⟨_, rfl, hB, fun j u hu => by
  have e : (⟨g, 0, none⟩ : Addr).add j = ⟨g, j, none⟩ := by unfold Addr.add; split <;> simp_all
  rw [e, h.cell j]; simpa using hu⟩⟩
theorem Mt (a b : Int) : gI 0 [a, b] = aaX a b := by
 simp only [gI]
 have e : aaX 0 a = if dI a then some a else none := by
  unfold aaX
  have h0 : dI 0 = true := by decide
  cases h : dI a <;> simp [h0, h]
 rw [e]
 cases h : dI a
 ·simp [aaX, h]
 ·simp only [if_true]
  cases aaX a b <;> rfl
theorem Qv (pa pb : Addr) (a b : Int) (w : World) (ha : w.cell? pa = some (.int .i64 a)) (hb : w.cell? pb = some (.int .i64 b)) :
 Calls Tryz.prog 273 #[.pointer (some pa), .pointer (some pb)] w fun e w' => e = Hg (aaX a b) ∧ Below w.heap.size w w' := by
 obtain ⟨o, ho⟩ : ∃ o, aaX a b = o := ⟨_, rfl⟩
 rw [ho]
 have HO := qh ((Mt a b).trans ho)
 clear ho
 go_enter Tryz.func273, Tryz.ntmps273
 go_wp2_with fail
 clear ha hb
 refine (Eo [a, b] _ _ _ (w.heap.size + 1) _ (JL (t := 2) (ax.new w _ _) (by omega) rfl) (by simp [maxLen])).mono ?_
 rintro e w' ⟨rfl, rfl⟩
 have hB : Below w.heap.size w (w.alloc (.cells #[.int .i64 a, .int .i64 b] 2)) := (Below.refl _ _).alloc (Nat.le_refl _) _
 rw [HO.out]
 cases o with
 | none => exact ⟨rfl, rfl, hB⟩
 | some s =>
  simp only [Hg]
  go_wp2
  go_ret
  exact ⟨rfl, hB⟩
theorem MB (pa pb : Addr) (a b : Int) (w : World) (ha : w.cell? pa = some (.int .i64 a)) (hb : w.cell? pb = some (.int .i64 b)) :
 Calls Tryz.prog 312 #[.pointer (some pa), .pointer (some pb)] w fun e w' => e = Hg (rX a b) ∧ Below w.heap.size w w' := by
 obtain ⟨o, ho⟩ : ∃ o, rX a b = o := ⟨_, rfl⟩
 rw [ho]
 have HO := qh ho
 clear ho
 go_enter Tryz.func312, Tryz.ntmps312
 go_wp2_with fail
 clear ha hb
 cases o with
 | none =>
  refine (Kr a b HO.out _).mono ?_
  rintro e w' ⟨rfl, rfl⟩
  exact ⟨rfl, rfl, Below.refl _ _⟩
 | some s =>
  refine (Ko a b s HO.out _).mono ?_
  rintro e w' ⟨rfl, rfl⟩
  go_wp2
  go_ret
  exact ⟨rfl, Below.refl _ _⟩
theorem Mx (p : Addr) (zs : List Int) (A : Option Addr) (n cap B : Nat) (w : World) (hr : Reads w B 1 A n (ints zs)) (hm : n ≤ maxLen) (hp : w.cell? p = some (.slice A n cap)) :
 Calls Tryz.prog 282 #[.pointer (some p)] w fun e w' => e = Hg (gI 0 zs) ∧ Below w.heap.size w w' := by
 have HR := qh hr
 clear hr
 obtain ⟨o, ho⟩ : ∃ o, gI 0 zs = o := ⟨_, rfl⟩
 rw [ho]
 have HO := qh ho
 clear ho
 go_enter Tryz.func282, Tryz.ntmps282
 go_wp2_with fail
 clear hp
 refine (Eo zs A n cap B _ HR.out hm).mono ?_
 rintro e w' ⟨rfl, rfl⟩
 rw [HO.out]
 cases o with
 | none => exact ⟨rfl, rfl, Below.refl _ _⟩
 | some s =>
  simp only [Hg]
  go_wp2
  go_ret
  exact ⟨rfl, Below.refl _ _⟩
theorem xM (g : FuncId) (caps : Array Value) (o : Option Int) (w : World) (hen : ∀ W, (callFunc g caps).run Tryz.prog W = .ok (.enter g caps) W)
 (hf : ∀ w1, Below w.heap.size w w1 → Calls Tryz.prog g caps w1 fun e w' => e = Hg o ∧ Below w1.heap.size w1 w') :
 Calls Tryz.prog 266 #[.func (.func g) #[] caps] w fun e w' => e = .returned (mY o) ∧ Below w.heap.size w w' := by
 cases o with
 | none => exact told_none g caps w hen hf
 | some n => exact Jp g caps n w hen hf
theorem KQ (caps : Array Value) (W : World) : (callFunc 273 caps).run Tryz.prog W = .ok (.enter 273 caps) W := by simp [go_sem]
theorem KP (caps : Array Value) (W : World) : (callFunc 312 caps).run Tryz.prog W = .ok (.enter 312 caps) W := by simp [go_sem]
theorem KM (caps : Array Value) (W : World) : (callFunc 282 caps).run Tryz.prog W = .ok (.enter 282 caps) W := by simp [go_sem]
theorem Jf (a b : Int) (w : World) : Calls Tryz.prog 210 #[.int .i64 a, .int .i64 b] w fun e w' => e = .returned (mY (aaX a b)) ∧ Below w.heap.size w w' := by
 have ED : ∀ (fn : Fn) (first cap : Array Value) (w : World), (Instr.makeFunc fn first cap).run Tryz.prog w = .ok (.func fn first cap) w := fun _ _ _ _ => rfl
 go_enter Tryz.func210, Tryz.ntmps210
 go_wp2_with fail
 have hB : Below w.heap.size w ((w.alloc (.cells #[.int .i64 a] 2)).alloc (.cells #[.int .i64 b] 2)) := ((Below.refl _ _).alloc (Nat.le_refl _) _).alloc (by simp) _
 refine (xM 273 #[.pointer (some ⟨w.heap.size, 0, none⟩), .pointer (some ⟨w.heap.size + 1, 0, none⟩)] (aaX a b) _ (KQ _)
  (fun w1 b1 => Qv _ _ a b w1 ((aa b1 ((ax.new w _ _).alloc _) (by simp; omega)).cell 0) ((aa b1 (bg 2 #[.int .i64 b] (g := w.heap.size + 1) (by simp)) (by simp)).cell 0))).mono ?_
 rintro e w2 ⟨rfl, b2⟩
 have B2 := hB.trans (b2.mono (by simp; omega))
 simp only [mY]
 go_wp2
 go_ret2
 exact ⟨rfl, B2⟩
theorem Ri (a b : Int) (w : World) : Calls Tryz.prog 272 #[.int .i64 a, .int .i64 b] w fun e w' => e = .returned (mY (rX a b)) ∧ Below w.heap.size w w' := by
 have ED : ∀ (fn : Fn) (first cap : Array Value) (w : World), (Instr.makeFunc fn first cap).run Tryz.prog w = .ok (.func fn first cap) w := fun _ _ _ _ => rfl
 go_enter Tryz.func272, Tryz.ntmps272
 go_wp2_with fail
 have hB : Below w.heap.size w ((w.alloc (.cells #[.int .i64 a] 2)).alloc (.cells #[.int .i64 b] 2)) := ((Below.refl _ _).alloc (Nat.le_refl _) _).alloc (by simp) _
 refine (xM 312 #[.pointer (some ⟨w.heap.size, 0, none⟩), .pointer (some ⟨w.heap.size + 1, 0, none⟩)] (rX a b) _ (KP _)
  (fun w1 b1 => MB _ _ a b w1 ((aa b1 ((ax.new w _ _).alloc _) (by simp; omega)).cell 0) ((aa b1 (bg 2 #[.int .i64 b] (g := w.heap.size + 1) (by simp)) (by simp)).cell 0))).mono ?_
 rintro e w2 ⟨rfl, b2⟩
 have B2 := hB.trans (b2.mono (by simp; omega))
 simp only [mY]
 go_wp2
 go_ret2
 exact ⟨rfl, B2⟩
theorem EF (zs : List Int) (A : Option Addr) (n cap B : Nat) (w : World) (hr : Reads w B 1 A n (ints zs)) (hB : B ≤ w.heap.size) (hm : n ≤ maxLen) :
 Calls Tryz.prog 213 #[.slice A n cap] w fun e w' => e = .returned (mY (gI 0 zs)) ∧ Below w.heap.size w w' := by
 have ED : ∀ (fn : Fn) (first cap : Array Value) (w : World), (Instr.makeFunc fn first cap).run Tryz.prog w = .ok (.func fn first cap) w := fun _ _ _ _ => rfl
 have HR := qh hr
 clear hr
 go_enter Tryz.func213, Tryz.ntmps213
 go_wp2_with fail
 have hB1 : Below w.heap.size w (w.alloc (.cells #[.slice A n cap] 184)) := (Below.refl _ _).alloc (Nat.le_refl _) _
 refine (xM 282 #[.pointer (some ⟨w.heap.size, 0, none⟩)] (gI 0 zs) _ (KM _)
  (fun w1 b1 => Mx _ zs A n cap B w1 ((HR.out.alloc hB _).below (b1.mono (by simp; omega))) hm ((aa b1 (ax.new w 184 _) (by simp)).cell 0))).mono ?_
 rintro e w2 ⟨rfl, b2⟩
 have B2 := hB1.trans (b2.mono (by simp))
 simp only [mY]
 go_wp2
 go_ret2
 exact ⟨rfl, B2⟩
end
section
open Go.RowKit
def ai : aS := ⟨List.replicate 32 0, by simp⟩
theorem cu.arr {α : Type} {enc : α → List Value} {k : Nat} {P : Program} {t e : TypeId} (T : cu P t e enc k) (x : α) : (enc x).toArray.size = k := by rw [List.size_toArray, T.len]
theorem cu.zq {α : Type} {enc : α → List Value} {k : Nat} {P : Program} {t e : TypeId} (T : cu P t e enc k) (x : α) : (enc x).toArray.all (·.oneCell') = true := by rw [List.all_toArray, List.all_eq_true]; exact T.one x
theorem cu.oU {α : Type} {enc : α → List Value} {k : Nat} {P : Program} {t e : TypeId} (T : cu P t e enc k) (x : α) : (P.info? e).map (·.size) = some (enc x).toArray.size := by rw [T.arr, T.size]
structure cZ (P : Program) (e : TypeId) {α : Type} (enc : α → List Value) (k : Nat) : Prop where
 size : (P.info? e).map (·.size) = some k
 len : ∀ x, (enc x).length = k
 one : ∀ x, ∀ v ∈ enc x, v.oneCell' = true
 agg : ∀ w, (isAgg e).run P w = .ok true w
section
variable {α : Type} {enc : α → List Value} {k : Nat} {P : Program} {e : TypeId} (T : cZ P e enc k)
include T
theorem cZ.sizeOf (w : World) : (Go.sizeOf e).run P w = .ok k w := by
 have h := T.size
 cases hq : P.info? e with
 | none => simp [hq] at h
 | some i =>
  have hz : i.size = k := by simpa [hq] using h
  simp [Go.sizeOf, typeInfo, hq, hz]
theorem cZ.load (w : World) (g o : Nat) (x : α) (h : au w g o (enc x)) : (loadVar e ⟨g, o, none⟩).run P w = .ok (.agg (enc x).toArray) w := by
 have hl := run_loadCellsFrom_list P w ⟨g, o, none⟩ (enc x) k (T.len x) (fun j v hv => by
  have hadd : (⟨g, o, none⟩ : Addr).add j = ⟨g, o + j, none⟩ := by unfold Addr.add; split <;> simp_all
  rw [hadd]; exact h j v hv)
 simp [loadVar, T.agg, T.sizeOf, loadCells, hl]
theorem cZ.af {ops : Array Oper} {rest : List Oper} {o : Oper} {a : Act} {w : World} {Q : Exit → Act → World → Prop} (hw : Region.wanted o (yielded ops a.tmps) = true) (x : Operand) (ho : o.op = .load e x)
 (g off : Nat) (hx : a.eval x = .pointer (some ⟨g, off, none⟩)) (y : α) (hg : au w g off (enc y))
 (h : wpList P ops Q rest (a.put o.dst (.agg (enc y).toArray)) w) : wpList P ops Q (o :: rest) a w :=
 wpList_step fun _ hK => by
  rw [if_pos hw]
  unfold Oper.wp execOp
  simp only [ho, hx, Instr.loadAt, Instr.sureAddr, Sem.run_bind, Sem.run_pure, Result.andThen_ok, T.load w g off y hg]
  exact hK _ _ h
theorem cZ.gM {ops : Array Oper} {C : World → Prop} {Q : Act → Prop} {a : Act} {rest : List Oper} {o : Oper} (hw : Region.wanted o (yielded ops a.tmps) = true) (x : Operand) (ho : o.op = .load e x)
 (g off : Nat) (hx : a.eval x = .pointer (some ⟨g, off, none⟩)) (y : α) (hg : ∀ w, C w → au w g off (enc y))
 (h : wpQuiet P ops C Q rest (a.put o.dst (.agg (enc y).toArray))) : wpQuiet P ops C Q (o :: rest) a :=
 wpQuiet_step fun K hK => by
  rw [if_pos hw]
  refine ⟨.agg (enc y).toArray, fun w hC => ?_, hK _ h⟩
  unfold Oper.quietAt execOp
  simp only [ho, hx, Instr.loadAt, Instr.sureAddr, Sem.run_bind, Sem.run_pure, Result.andThen_ok, T.load w g off y (hg w hC)]
  exact ⟨rfl, rfl⟩
theorem cZ.arr (x : α) : (enc x).toArray.size = k := by rw [List.size_toArray, T.len]
theorem cZ.aj {ops : Array Oper} {rest : List Oper} {o : Oper} {a : Act} {w : World} {Q : Exit → Act → World → Prop} (hgd : o.guard = none) (x y : Operand) (ho : o.op = .store e x y)
 (hd : o.dst = none) (g : Nat) (v : α) (hx : a.eval x = .pointer (some ⟨g, 0, none⟩)) (hy : a.eval y = .agg (enc v).toArray) (t : TypeId) (old : Array Value) (hg : ax w g t old) (hold : old.size = k)
 (h : ∀ w', Only [g] w w' → ax w' g t (enc v).toArray → wpList P ops Q rest a w') : wpList P ops Q (o :: rest) a w :=
 aG hgd e x y ho hd g _ hx hy t old hg (by rw [T.arr, T.size]) (by rw [T.arr, hold]) (by rw [List.all_toArray, List.all_eq_true]; exact T.one v) h
end
section
variable {P : Program} {e : TypeId} {α : Type} {enc : α → List Value} {k : Nat} (T : cZ P e enc k)
include T
theorem cZ.dO {ops : Array Oper} {rest : List Oper} {o : Oper} {a : Act} {w : World} {Q : Exit → Act → World → Prop} (hgd : o.guard = none) (x y : Operand) (ho : o.op = .store e x y)
 (hd : o.dst = none) (g off : Nat) (v : α) (hx : a.eval x = .pointer (some ⟨g, off, none⟩)) (hy : a.eval y = .agg (enc v).toArray) (te : TypeId) (cs : List Value) (hg : ax w g te cs.toArray) (hfit : off + k ≤ cs.length)
 (h : ∀ w', Only [g] w w' → ax w' g te (cs.take off ++ enc v ++ cs.drop (off + k)).toArray → wpList P ops Q rest a w') : wpList P ops Q (o :: rest) a w :=
 wpList_plain hgd fun _ hK => by
  have hst := run_storeCells_at P g off te (enc v) 0 _ w hg (by rw [T.len, Nat.add_zero, List.size_toArray]; exact hfit) (T.one v)
  rw [Nat.add_zero, T.len] at hst
  have hs : cs.toArray.toList = cs := by simp
  rw [hs] at hst
  have hrun : (storeVar e ⟨g, off, none⟩ (.agg (enc v).toArray)).run P w = .ok () (w.setRow g (cs.take off ++ enc v ++ cs.drop (off + k)).toArray) := by
   simp [storeVar, T.sizeOf, Value.cells, T.len, hst]
  unfold Oper.wp execOp
  simp only [ho, hx, hy, Instr.storeAt, Instr.sureAddr, Sem.run_bind, Sem.run_pure, Result.andThen_ok, hrun]
  rw [Oper.upon_skip, hd]
  exact hK _ _ (h _ (cK hg _).1 (cK hg _).2)
theorem cZ.nH {o : Oper} {a : Act} {w : World} {K : Act → World → Prop} {Q : Exit → Act → World → Prop} {ops : Array Oper} {E : Prop} (hw : Region.wanted o (yielded ops a.tmps) = true) (x : Operand) (ho : o.op = .load e x)
 (g off : Nat) (hx : a.eval x = .pointer (some ⟨g, off, none⟩)) (y : α) (hg : au w g off (enc y)) (h : K (a.put o.dst (.agg (enc y).toArray)) w) : if Region.wanted o (yielded ops a.tmps) = true then Oper.wp P o a w K Q else E := by
 rw [if_pos hw]
 unfold Oper.wp execOp
 simp only [ho, hx, Instr.loadAt, Instr.sureAddr, Sem.run_bind, Sem.run_pure, Result.andThen_ok, T.load w g off y hg]
 exact h
theorem cZ.fu {o : Oper} {a : Act} {w : World} {K : Act → World → Prop} {Q : Exit → Act → World → Prop} {ops : Array Oper} {E : Prop} (hgd : o.guard = none) (x y : Operand) (ho : o.op = .store e x y)
 (hd : o.dst = none) (g off : Nat) (v : α) (hx : a.eval x = .pointer (some ⟨g, off, none⟩)) (hy : a.eval y = .agg (enc v).toArray) (te : TypeId) (cs : List Value) (hg : ax w g te cs.toArray) (hfit : off + k ≤ cs.length)
 (h : ∀ w', Only [g] w w' → ax w' g te (cs.take off ++ enc v ++ cs.drop (off + k)).toArray → K a w') : if Region.wanted o (yielded ops a.tmps) = true then Oper.wp P o a w K Q else E := by
 have hw : Region.wanted o (yielded ops a.tmps) = true := by simp [Region.wanted, hgd]
 rw [if_pos hw]
 have hst := run_storeCells_at P g off te (enc v) 0 _ w hg (by rw [T.len, Nat.add_zero, List.size_toArray]; exact hfit) (T.one v)
 rw [Nat.add_zero, T.len] at hst
 have hs : cs.toArray.toList = cs := by simp
 rw [hs] at hst
 have hrun : (storeVar e ⟨g, off, none⟩ (.agg (enc v).toArray)).run P w = .ok () (w.setRow g (cs.take off ++ enc v ++ cs.drop (off + k)).toArray) := by
  simp [storeVar, T.sizeOf, Value.cells, T.len, hst]
 unfold Oper.wp execOp
 simp only [ho, hx, hy, Instr.storeAt, Instr.sureAddr, Sem.run_bind, Sem.run_pure, Result.andThen_ok, hrun]
 rw [Oper.upon_skip, hd]
 exact h _ (cK hg _).1 (cK hg _).2
theorem cZ.aH {o : Oper} {a : Act} {w : World} {K : Act → World → Prop} {Q : Exit → Act → World → Prop} {ops : Array Oper} {E : Prop} (hgd : o.guard = none) (x y : Operand) (ho : o.op = .store e x y)
 (hd : o.dst = none) (g : Nat) (v : α) (hx : a.eval x = .pointer (some ⟨g, 0, none⟩)) (hy : a.eval y = .agg (enc v).toArray) (te : TypeId) (cs : Array Value) (hg : ax w g te cs) (hfit : cs.size = k)
 (h : ∀ w', Only [g] w w' → ax w' g te (enc v).toArray → K a w') : if Region.wanted o (yielded ops a.tmps) = true then Oper.wp P o a w K Q else E :=
 T.fu hgd x y ho hd g 0 v hx hy te cs.toList (by simpa using hg) (by rw [Array.length_toList]; omega) fun w' o' b' => h w' o' (by
  rw [List.take_zero, List.nil_append, List.drop_of_length_le (by rw [Array.length_toList]; omega), List.append_nil] at b'
  exact b')
end
theorem bn {P : Program} {fn : Func} {p t1 : Tmp} {ty : TypeId} (h : fn.results = #[.cell p ty, .tmp t1]) (tmps : Array Value) (w : World) (g : Nat) (t : TypeId) (cs : Array Value) (fr : Nat × Nat) (d : TypeDesc)
 (hp : tmps.getD p undef = .pointer (some ⟨g, 0, none⟩)) (hg : w.heap[g]? = some (.cells cs t fr))
 (hu : P.underlying ty = some d) (hd : (match d with | .struct _ | .array _ _ => true | _ => false) = true) (hi : (P.info? ty).map (·.size) = some cs.size) :
 (results fn tmps).run P w = .ok (.tuple #[.agg cs, tmps.getD t1 undef]) w := by
 have hp' : tmps[p]?.getD undef = .pointer (some ⟨g, 0, none⟩) := by simpa using hp
 simp [results, h, hp', asAddr, run_loadVar_row w g t ty cs fr d hg hu hd hi]
theorem pY {P : Program} {fn : Func} {p q : Tmp} {t1 t2 : TypeId} (h : fn.results = #[.cell p t1, .cell q t2]) (tmps : Array Value) (w : World) (a b : Addr) {x y : Value} (hp : tmps.getD p undef = .pointer (some a)) (hq : tmps.getD q undef = .pointer (some b))
 (hx : (loadVar t1 a).run P w = .ok x w) (hy : (loadVar t2 b).run P w = .ok y w) : (results fn tmps).run P w = .ok (.tuple #[x, y]) w := by
 have hp' : tmps[p]?.getD undef = .pointer (some a) := by simpa using hp
 have hq' : tmps[q]?.getD undef = .pointer (some b) := by simpa using hq
 simp [results, h, hp', hq', asAddr, hx, hy]
theorem eH : cu Tryz.prog 22 26 ak 32 := ⟨Tryz.underlying22, by kernel_rfl, aC, fI, Tryz.isAgg26, by omega⟩
theorem bL : cZ Tryz.prog 26 ak 32 := ⟨by kernel_rfl, aC, fI, Tryz.isAgg26⟩
theorem ZW : ((Tryz.prog.info? 26).bind (·.zero)).map (·.cells.size) = some 32 := by kernel_rfl
theorem ZY : (Tryz.prog.info? 26).map (·.bytes) = some 32 := by kernel_rfl
theorem vJ : (#[Value.int .u8 0, Value.int .u8 0, Value.int .u8 0, Value.int .u8 0, Value.int .u8 0, Value.int .u8 0, Value.int .u8 0, Value.int .u8 0, Value.int .u8 0, Value.int .u8 0, Value.int .u8 0, Value.int .u8 0, Value.int .u8 0, Value.int .u8 0, Value.int .u8 0, Value.int .u8 0, Value.int .u8 0, Value.int .u8 0, Value.int .u8 0, Value.int .u8 0, Value.int .u8 0, Value.int .u8 0, Value.int .u8 0, Value.int .u8 0, Value.int .u8 0, Value.int .u8 0, Value.int .u8 0, Value.int .u8 0, Value.int .u8 0, Value.int .u8 0, Value.int .u8 0, Value.int .u8 0] : Array Value) = (ak ai).toArray := by kernel_rfl
theorem jw (a b : aS) (V : World) : (Op.equal 26 (.agg (ak a).toArray) (.agg (ak b).toArray)).run Tryz.prog V = .ok (decide (a = b)) V := by
 rw [dQ, dQ]
 refine (Cb V Tryz.underlying26 Tryz.underlying5 (by kernel_rfl) a.1 b.1 a.2 b.2).trans ?_
 congr 1
 rw [decide_eq_decide]
 exact ⟨fun h => Subtype.ext h, fun h => h ▸ rfl⟩
section
variable {P : Program} {ops : Array Oper} {S : World → Prop} {a : Act} {o : Oper} {rest : List Oper} {w : World} {Q : Exit → Act → World → Prop}
theorem u7 (hw : Region.wanted o (yielded ops a.tmps) = true) (ty yt : TypeId) (x y : Operand) (ho : o.op = .binOp .eql ty x y yt)
 (cx cy : Array Value) (hx : a.eval x = .agg cx) (hy : a.eval y = .agg cy) (hg : P.eqGuardType P.depth ty = false) (r : Bool) (he : ∀ V, (Op.equal ty (.agg cx) (.agg cy)).run P V = .ok r V) : YieldsIf P ops S o (.bool r) a :=
 .inl ⟨hw, fun w _ => by
  unfold execOp
  simp only [ho, hx, hy]
  unfold eqGuard binOp
  simp [go_sem, hg, he]⟩
theorem cZ.aB {α : Type} {enc : α → List Value} {k : Nat} {t : TypeId} (T : cZ P t enc k) (hw : Region.wanted o (yielded ops a.tmps) = true) (x : Operand) (ho : o.op = .load t x)
 (g off : Nat) (hx : a.eval x = .pointer (some ⟨g, off, none⟩)) (y : α) (hg : ∀ W, S W → au W g off (enc y)) : YieldsIf P ops S o (.agg (enc y).toArray) a :=
 .inl ⟨hw, fun w hS => by
  unfold execOp
  simp only [ho, hx, Instr.loadAt, Instr.sureAddr, Sem.run_bind, Sem.run_pure, Result.andThen_ok, T.load w g off y (hg w hS)]⟩
end
section
variable {α : Type} {enc : α → List Value} {k : Nat} {P : Program} {t e : TypeId} (T : cu P t e enc k)
include T
theorem cu.j3 {ops : Array Oper} {rest : List Oper} {o : Oper} {a : Act} {w : World} {Q : Exit → Act → World → Prop} (hgd : o.guard = none) (hz : ((P.info? e).bind (·.zero)).map (·.cells.size) = some k) (bytes : Nat) (hb : (P.info? e).map (·.bytes) = some bytes) (hby : bytes ≤ 100000) (s x : Operand)
 (ho : o.op = .call { callee := .builtin .append, args := #[s, x], argTypes := #[t, t] })
 (base : Nat) (v : Value) (l : List α) (hs : a.eval s = v) (hown : w.ownsRow base e k v l.length (cellsOf enc l))
 (B : Nat) (A : Option Addr) (c : Nat) (m : List α) (hx : a.eval x = .slice A m.length c) (hg : aK enc k w B A c m) (hn : l.length + m.length ≤ 1000000) (hbase : base ≤ w.heap.size)
 (h : ∀ v' w', w'.ownsRow base e k v' (l ++ m).length (cellsOf enc (l ++ m)) → w.grownBy w' v.ownBlock → wpList P ops Q rest (a.put o.dst v') w') : wpList P ops Q (o :: rest) a w := by
 have hsz := T.size
 cases hie : P.info? e with
 | none => simp [hie] at hsz
 | some ie =>
  simp only [hie, Option.map_some, Option.some.injEq, Option.bind_some, Option.map_eq_some_iff] at hsz hz hb
  obtain ⟨z, hz1, hz2⟩ := hz
  refine dP w hgd s x t ho base e ie z k bytes T.slice hie hz1 hsz hb hz2 T.pos v l.length (cellsOf enc l) hs hown B A m.length c (cellsOf enc m) hx (hg.reads T.len) (dB T.one _) ?_ ?_ hbase ?_
  ·unfold maxLen; omega
  ·have : (l.length + m.length) * bytes ≤ 1000000 * 100000 := Nat.mul_le_mul hn hby
   omega
  ·intro v' w' h2 h3 _
   exact h v' w' (by rw [List.length_append, bS]; exact h2) h3
end
structure Holds (w : World) (L : List (Nat × TypeId × Array Value)) (W : World) : Prop where
 below : Below w.heap.size w W
 nS : ∀ x ∈ L, ax W x.1 x.2.1 x.2.2
section
variable {w W W' : World} {L : List (Nat × TypeId × Array Value)}
theorem Holds.nil (w : World) : Holds w [] w := ⟨Below.refl _ _, fun _ h => by cases h⟩
theorem Holds.call (h : Holds w L W) (hb : Below W.heap.size W W') : Holds w L W' := ⟨h.below.trans (hb.mono h.below.size), fun x hx => aa hb (h.nS x hx) (h.nS x hx).lt⟩
theorem Holds.put {t : TypeId} {ob : Obj} {cs : Array Value} (h : Holds w L W) (o : Only [W.heap.size] (W.alloc ob) W') (b : ax W' W.heap.size t cs) : Holds w ((W.heap.size, t, cs) :: L) W' :=
 ⟨h.below.trans ((((Below.refl _ _).alloc (Nat.le_refl _) ob).trans (o.below (by simp))).mono h.below.size), fun x hx => by
  rcases List.mem_cons.1 hx with rfl | hx
  ·exact b
  ·exact o.blk ((h.nS x hx).alloc ob) (by have := (h.nS x hx).lt; simp; omega)⟩
theorem Holds.box (h : Holds w L W) (t : TypeId) (cs : Array Value) : Holds w ((W.heap.size, t, cs) :: L) (W.alloc (.cells cs t)) :=
 ⟨h.below.trans (((Below.refl _ _).alloc (Nat.le_refl _) _).mono h.below.size), fun x hx => by
  rcases List.mem_cons.1 hx with rfl | hx
  ·exact ax.new W t cs
  ·exact (h.nS x hx).alloc _⟩
theorem Holds.at {x : Nat × TypeId × Array Value} (h : Holds w L W) (hx : x ∈ L) : ax W x.1 x.2.1 x.2.2 := h.nS x hx
end
theorem C8 {P : Program} {t : TypeId} {z : Value} (h : (P.info? t).bind (·.zero) = some z) (w : World) : (zeroValue t).run P w = .ok z w := by
 cases hi : P.info? t with
 | none => simp [hi] at h
 | some i =>
  have hz : i.zero = some z := by simpa [hi] using h
  simp [zeroValue, typeInfo, hi, hz]
theorem bB {P : Program} {t : TypeId} {cs : Array Value} {n : Nat} (h : (P.info? t).bind (·.zero) = some (.agg cs)) (hs : cs.size = n + 1) : ∃ Z : Array Value, Z = cs ∧ (∀ w, (zeroValue t).run P w = .ok (.agg Z) w) ∧ Z.size = n + 1 ∧ Z ≠ #[] :=
 ⟨cs, rfl, C8 h, hs, fun q => by rw [q] at hs; simp at hs⟩
end
section
open Go.RowKit
section
variable {w W W' : World} {L : List (Nat × TypeId × Array Value)} {g : Nat} {t : TypeId} {cs cs' : Array Value}
theorem Holds.turn (h : Holds w ((g, t, cs) :: L) W) (o : Only [g] W W') (b : ax W' g t cs') (hg : w.heap.size ≤ g) (hL : ∀ x ∈ L, x.1 ≠ g) : Holds w ((g, t, cs') :: L) W' :=
 ⟨h.below.trans (o.below (by simpa using hg)), fun x hx => by
  rcases List.mem_cons.1 hx with rfl | hx
  ·exact b
  ·exact o.blk (h.nS x (List.mem_cons_of_mem _ hx)) (by simpa using hL x hx)⟩
theorem Holds.alloc (h : Holds w L W) (ob : Obj) : Holds w L (W.alloc ob) := h.call ((Below.refl _ _).alloc (Nat.le_refl _) ob)
theorem Holds.more (h : Holds w L W) (hb : ax W g t cs) : Holds w ((g, t, cs) :: L) W := ⟨h.below, fun x hx => by
 rcases List.mem_cons.1 hx with rfl | hx
 ·exact hb
 ·exact h.nS x hx⟩
theorem Holds.drop {y : Nat × TypeId × Array Value} (h : Holds w (y :: L) W) : Holds w L W := ⟨h.below, fun x hx => h.nS x (List.mem_cons_of_mem _ hx)⟩
end
section
variable {P : Program} {ops : Array Oper} {o : Oper} {a : Act} {w : World} {K : Act → World → Prop} {Q : Exit → Act → World → Prop} {E : Prop}
theorem iQ (hw : Region.wanted o (yielded ops a.tmps) = true) (ty : TypeId) (x : Operand) (ho : o.op = .load ty x)
 (p : Addr) (hx : a.eval x = .pointer (some p)) (v : Value) (ha : ∀ w, (isAgg ty).run P w = .ok false w) (hg : w.cell? p = some v) (h : K (a.put o.dst v) w) : if Region.wanted o (yielded ops a.tmps) = true then Oper.wp P o a w K Q else E := by
 rw [if_pos hw]
 unfold Oper.wp execOp
 simp only [ho, hx, Instr.loadAt, Instr.sureAddr, Sem.run_bind, Sem.run_pure, Result.andThen_ok, fP ha hg]
 exact h
theorem dU (hgd : o.guard = none) (ty : TypeId) (x y : Operand) (ho : o.op = .store ty x y)
 (hd : o.dst = none) (g i : Nat) (v : Value) (hx : a.eval x = .pointer (some ⟨g, i, none⟩)) (hy : a.eval y = v) (h1 : v.oneCell' = true)
 (t : TypeId) (cs : Array Value) (hg : ax w g t cs) (hi : i < cs.size) (hs : (P.info? ty).map (·.size) = some 1)
 (h : ∀ w', Only [g] w w' → ax w' g t (cs.setIfInBounds i v) → K a w') : if Region.wanted o (yielded ops a.tmps) = true then Oper.wp P o a w K Q else E := by
 have hw : Region.wanted o (yielded ops a.tmps) = true := by simp [Region.wanted, hgd]
 rw [if_pos hw]
 subst hy
 have hrun : (storeVar ty ⟨g, i, none⟩ (a.eval y)).run P w = .ok () (w.setCell ⟨g, i, none⟩ (a.eval y)) := by
  have hcell : w.cell? ⟨g, i, none⟩ = some cs[i] := (hg.cell i).trans (Array.getElem?_eq_getElem hi)
  have hc : (a.eval y).cells = #[a.eval y] := by generalize a.eval y = v at h1; cases v <;> first | rfl | cases h1
  cases hq : P.info? ty with
  | none => simp [hq] at hs
  | some inf =>
   have hz : inf.size = 1 := by simpa [hq] using hs
   have hadd : (⟨g, i, none⟩ : Addr).add 0 = ⟨g, i, none⟩ := by simp [Addr.add]
   simp [storeVar, sizeOf, typeInfo, hq, hc, hz, storeCells, hadd, run_store P w _ _ _ h1, hcell, hg.frozen i]
 unfold Oper.wp execOp
 simp only [ho, hx, Instr.storeAt, Instr.sureAddr, Sem.run_bind, Sem.run_pure, Result.andThen_ok, hrun]
 rw [Oper.upon_skip, hd]
 exact h _ (jN hg i _).1 (jN hg i _).2
end
theorem bJ {P : Program} {ops : Array Oper} {S : World → Prop} {a : Act} {o : Oper} (hw : Region.wanted o (yielded ops a.tmps) = true) (ty : TypeId) (x : Operand) (ho : o.op = .load ty x)
 (p : Addr) (hx : a.eval x = .pointer (some p)) (v : Value) (ha : ∀ w, (isAgg ty).run P w = .ok false w) (hg : ∀ w, S w → w.cell? p = some v) : YieldsIf P ops S o v a :=
 .inl ⟨hw, fun w hS => by
  unfold execOp
  simp only [ho, hx, Instr.loadAt, Instr.sureAddr, Sem.run_bind, Sem.run_pure, Result.andThen_ok, fP ha (hg w hS)]⟩
theorem Holds.low {w W W' : World} {L : List (Nat × TypeId × Array Value)} {B : Nat} (h : Holds w L W) (hb : Below B W W') (hB : w.heap.size ≤ B) (hL : ∀ x ∈ L, x.1 < B) : Holds w L W' :=
 ⟨h.below.trans (hb.mono hB), fun x hx => aa hb (h.nS x hx) (hL x hx)⟩
def enc1 (q : IntKind) (z : aQ q) : List Value := [.int q z.1]
theorem PX (q : IntKind) (z : aQ q) : (enc1 q z).length = 1 := rfl
end
section
open Go.RowKit
theorem LF {P : Program} {ops : Array Oper} {rest : List Oper} {a : Act} {w : World} {Q : Exit → Act → World → Prop} {ty kG : TypeId} {pos : String} {after : Array Edge} {v : Value} (i : Nat)
 (h : wpList P ops Q ({ dst := none, op := .store ty (.tmp i) (.const v), type := kG, pos := pos, after := after, guard := none } :: rest) a w) :
 wpList P ops Q ({ dst := none, op := .store ty (.tmp i) (.const v), type := kG, pos := pos, after := after, guard := none } :: rest) a w := h
def LX (z : Int) : List PanicEntry := [{ v := .iface 30 (.int .i64 z), recovered := false }]
theorem qb (w : World) : Calls Tryz.prog 138 #[.int .i64 0] w fun e w' => e = .returned (.tuple #[]) ∧ w = w' := by
 go_enter Tryz.func138, Tryz.ntmps138
 go_wp2
 exact ⟨rfl, .tuple #[], by kernel_rfl, rfl, rfl⟩
theorem JO (z : Int) (h : z ≠ 0) (w : World) : Calls Tryz.prog 138 #[.int .i64 z] w fun e w' => e = .panicked (LX z) ∧ w = w' := by
 have hb : (z != 0) = true := bne_iff_ne.2 h
 clear h
 go_enter Tryz.func138, Tryz.ntmps138
 go_wp2
 exact ⟨rfl, rfl, rfl⟩
theorem jX (z : Int) (w : World) : Calls Tryz.prog 135 #[.bool true, .int .i64 z] w fun e w' => e = .returned (.tuple #[]) ∧ w = w' := by
 go_enter Tryz.func135, Tryz.ntmps135
 go_wp2
 exact ⟨rfl, .tuple #[], by kernel_rfl, rfl, rfl⟩
theorem jG (z : Int) (w : World) : Calls Tryz.prog 135 #[.bool false, .int .i64 z] w fun e w' => e = .panicked (LX z) ∧ w = w' := by
 go_enter Tryz.func135, Tryz.ntmps135
 go_wp2
 exact ⟨rfl, rfl, rfl⟩
theorem sj (a : Int) (w : World) : Calls Tryz.prog 212 #[.int .i64 a, .int .i64 0] w fun e w' => e = .returned (.int .i64 a) ∧ w = w' := by
 go_enter Tryz.func212, Tryz.ntmps212
 go_wp2_with fail
 refine (jX 167 _).mono ?_
 rintro e w' ⟨rfl, rfl⟩
 go_wp2
 go_ret
 exact ⟨rfl, rfl⟩
theorem qa (a z : Int) (h : z ≠ 0) (w : World) : Calls Tryz.prog 212 #[.int .i64 a, .int .i64 z] w fun e w' => e = .panicked (LX 167) ∧ w = w' := by
 have hb : (z == 0) = false := beq_eq_false_iff_ne.2 h
 clear h
 go_enter Tryz.func212, Tryz.ntmps212
 go_wp2_with fail
 refine (jG 167 _).mono ?_
 rintro e w' ⟨rfl, rfl⟩
 exact ⟨rfl, rfl, rfl⟩
end
section
open Go.RowKit
theorem D5 (p : Addr) (w : World) :
 CallsD Tryz.prog 134 #[.pointer (some p)] .returning w fun e u' w' => e = .returned (.tuple #[]) ∧ u' = .returning ∧ w' = w := by
 refine callsD_of_wpS Tryz.func134 rfl fun c₀ cs hu => ?_
 apply wpS_seq
 apply wpS_region
 simp [wpOpsS, go_sem, recoverD, hu, Tryz.ntmps134, Exit.thenS]
 apply wpS_seq
 apply wpS_region
 simp [wpOpsS, go_sem, Exit.thenS]
 refine wpS_cond (t := false) (by simp [Act.eval, Array.replicate]) ?_
 simp only [Bool.false_eq_true, if_false]
 refine wpS_of_wp (wp_skip ?_)
 cases c₀
 simp_all [bodyPostS, results, Tryz.results134]
theorem Aj (f : FuncId) (caps : Array Value) (w : World) (Q : World → Prop) (hen : ∀ W, (callFunc f caps).run Tryz.prog W = .ok (.enter f caps) W)
 (hf : Calls Tryz.prog f caps (w.alloc (.cells #[.int .i64 0] 30)) fun e w' => e = .returned (.tuple #[]) ∧ Q w' ∧ ax w' w.heap.size 30 #[.int .i64 0]) :
 Calls Tryz.prog 87 #[.func (.func f) #[] caps] w fun e w' => e = .returned (.int .i64 0) ∧ ∃ v, Q v ∧ Only [w.heap.size] v w' := by
 have ED : ∀ (fn : Fn) (first cap : Array Value) (w : World), (Instr.makeFunc fn first cap).run Tryz.prog w = .ok (.func fn first cap) w := fun _ _ _ _ => rfl
 have HF := qh hf
 clear hf
 go_enter_defers Tryz.func87, Tryz.ntmps87
 go_wp2_with fail
 refine HF.out.mono ?_
 rintro e w2 ⟨rfl, q2, k2⟩
 have c2 := k2.cell 0
 have z2 := k2.frozen 0
 have HK := qh k2
 have HQ := qh q2
 clear k2 q2 HF
 simp only [List.getElem?_toArray, List.getElem?_cons_zero] at c2
 go_wp2
 refine leaves_cons (f := 134) (args := #[.pointer (some ⟨w.heap.size, 0, none⟩)]) (by simp) (by simp [go_sem]) ?_
 refine (D5 ⟨w.heap.size, 0, none⟩ _).mono ?_
 rintro e u' w'' ⟨rfl, rfl, rfl⟩
 have O3 : Only [w.heap.size] w2 (w2.setCell ⟨w.heap.size, 0, none⟩ (.int .i64 0)) := (Only.refl _ _).setCell (by simp) _
 simp [Leaves, settle, results, Tryz.results87, go_sem, c2]
 exact ⟨w2, HQ.out, O3⟩
end
section
section
variable {C P : Type} (at_ : C → P) (lt : P → P → Bool)
def iK (c : C) : List C → List C
 | [] => [c]
 | x :: s => if lt (at_ c) (at_ x) then c :: x :: s else x :: iK c s
variable {at_ lt}
theorem yj {c x : C} : ∀ {s : List C}, x ∈ iK at_ lt c s ↔ x = c ∨ x ∈ s
 | [] => by simp [iK]
 | y :: s => by
  unfold iK
  split
  ·simp
  ·rw [List.mem_cons, yj, List.mem_cons]
   constructor
   ·rintro (h | h | h)
    ·exact .inr (.inl h)
    ·exact .inl h
    ·exact .inr (.inr h)
   ·rintro (h | h | h)
    ·exact .inr (.inl h)
    ·exact .inl h
    ·exact .inr (.inr h)
theorem yl (c : C) : ∀ s : List C, (iK at_ lt c s).length = s.length + 1
 | [] => rfl
 | y :: s => by
  unfold iK
  split
  ·rfl
  ·rw [List.length_cons, yl c s, List.length_cons]
end
section
variable {C P : Type} [DecidableEq P] (at_ : C → P) (lt : P → P → Bool)
def gW (s : List C) (p : P) : Option C := s.find? fun c => decide (at_ c = p)
def rq (s : List C) (p : P) : List C := s.eraseP fun c => decide (at_ c = p)
def je (s : List C) : Prop := s.Pairwise fun a b => lt (at_ a) (at_ b) = true
def takeC (DV : C → Bool) : List C → List P → Option (List C × List C)
 | s, [] => some (s, [])
 | s, p :: ps => match gW at_ s p with
  | none => none
  | some c => if DV c then (takeC DV (rq at_ s p) ps).map fun x => (x.1, c :: x.2) else none
def iX : List C → List C → Option (List C)
 | s, [] => some s
 | s, c :: cs => if (gW at_ s (at_ c)).isSome then none else iX (iK at_ lt c s) cs
variable {at_ lt}
theorem yV {s : List C} {p : P} {c : C} (h : gW at_ s p = some c) : at_ c = p := by
 have := List.find?_some h
 exact of_decide_eq_true this
theorem vQ {s : List C} {p : P} {c : C} (h : gW at_ s p = some c) : c ∈ s := List.mem_of_find?_eq_some h
theorem lS {s : List C} {p : P} : gW at_ s p = none ↔ ∀ c ∈ s, at_ c ≠ p := by
 unfold gW
 rw [List.find?_eq_none]
 simp
theorem I8 {p : P} {c : C} : ∀ s : List C, gW at_ s p = some c → (rq at_ s p).length + 1 = s.length := by
 intro s h
 have hm := vQ h
 unfold rq
 have := List.length_eraseP_of_mem (p := fun c => decide (at_ c = p)) hm (by simpa using yV h)
 have hl : 0 < s.length := List.length_pos_of_mem hm
 omega
end
structure Qy {P : Type} (lt : P → P → Bool) : Prop where
 irrefl : ∀ a, lt a a = false
 trans : ∀ {a b c}, lt a b = true → lt b c = true → lt a c = true
 tri : ∀ {a b}, lt a b = false → lt b a = false → a = b
theorem Qy.asym {P : Type} {lt : P → P → Bool} (O : Qy lt) {a b : P} (h : lt a b = true) : lt b a = false := by
 cases hb : lt b a with
 | false => rfl
 | true => have := O.trans h hb; rw [O.irrefl] at this; cases this
section
variable {C P : Type} [DecidableEq P] {at_ : C → P} {lt : P → P → Bool}
theorem JI {p : P} {s : List C} (h : je at_ lt s) : je at_ lt (rq at_ s p) := List.Pairwise.sublist List.eraseP_sublist h
theorem rH (O : Qy lt) {p : P} : ∀ s : List C, je at_ lt s → gW at_ (rq at_ s p) p = none
 | [], _ => rfl
 | y :: s, h => by
  unfold je at h
  rw [List.pairwise_cons] at h
  by_cases hy : at_ y = p
  ·unfold rq
   rw [List.eraseP_cons_of_pos (by simpa using hy)]
   refine lS.2 fun x hx e => ?_
   have := h.1 x hx
   rw [hy, e, O.irrefl] at this
   cases this
  ·have ih := rH O (p := p) s h.2
   unfold rq at ih ⊢
   rw [List.eraseP_cons_of_neg (by simpa using hy)]
   refine lS.2 fun x hx => ?_
   rcases List.mem_cons.1 hx with rfl | hx
   ·exact hy
   ·exact lS.1 ih x hx
end
section
variable {C P : Type} [DecidableEq P] {at_ : C → P} {lt : P → P → Bool} (O : Qy lt)
include O
theorem Ae {c : C} : ∀ s : List C, je at_ lt s → gW at_ s (at_ c) = none → je at_ lt (iK at_ lt c s)
 | [], _, _ => by unfold iK je; simp
 | y :: s, h, hf => by
  have hn := lS.1 hf
  unfold je at h ⊢
  rw [List.pairwise_cons] at h
  unfold iK
  by_cases hl : lt (at_ c) (at_ y) = true
  ·rw [if_pos hl, List.pairwise_cons, List.pairwise_cons]
   refine ⟨fun x hx => ?_, h⟩
   rcases List.mem_cons.1 hx with rfl | hx
   ·exact hl
   ·exact O.trans hl (h.1 x hx)
  ·rw [if_neg hl, List.pairwise_cons]
   refine ⟨fun x hx => ?_, Ae s h.2 (lS.2 fun x hx => hn x (by simp [hx]))⟩
   rcases yj.1 hx with rfl | hx
   ·cases hb : lt (at_ y) (at_ x) with
    | true => rfl
    | false => exact absurd (O.tri hb (by simpa using hl)) (hn y (by simp))
   ·exact h.1 x hx
theorem II {p : P} {c : C} : ∀ s : List C, je at_ lt s → gW at_ s p = some c → iK at_ lt c (rq at_ s p) = s
 | [], _, h => by cases h
 | y :: s, h, hf => by
  unfold je at h
  rw [List.pairwise_cons] at h
  by_cases hy : at_ y = p
  ·unfold gW at hf
   rw [List.find?_cons_of_pos (by simpa using hy)] at hf
   obtain rfl := Option.some.inj hf
   unfold rq
   rw [List.eraseP_cons_of_pos (by simpa using hy)]
   cases s with
   | nil => rfl
   | cons x s =>
    unfold iK
    rw [if_pos (h.1 x (by simp))]
  ·have hf' : gW at_ s p = some c := by
    unfold gW at hf ⊢
    rwa [List.find?_cons_of_neg (by simpa using hy)] at hf
   have ih := II s h.2 hf'
   unfold rq at ih ⊢
   rw [List.eraseP_cons_of_neg (by simpa using hy)]
   unfold iK
   rw [if_neg (by rw [O.asym (h.1 c (vQ hf'))]; decide), ih]
theorem z8 {DV : C → Bool} : ∀ (ps : List P) (s s' sp : List C), je at_ lt s → takeC at_ DV s ps = some (s', sp) →
 je at_ lt s' ∧ sp.map at_ = ps ∧ s'.length + sp.length = s.length ∧ iX at_ lt s' sp.reverse = some s
 | [], s, s', sp, h, ht => by
  unfold takeC at ht
  obtain ⟨rfl, rfl⟩ := Prod.mk.inj (Option.some.inj ht)
  exact ⟨h, rfl, rfl, rfl⟩
 | p :: ps, s, s', sp, h, ht => by
  unfold takeC at ht
  cases hf : gW at_ s p with
  | none => rw [hf] at ht; cases ht
  | some c =>
   rw [hf] at ht
   simp only at ht
   split at ht
   ·cases hr : takeC at_ DV (rq at_ s p) ps with
    | none => rw [hr] at ht; cases ht
    | some x =>
     rw [hr, Option.map_some] at ht
     obtain ⟨rfl, rfl⟩ := Prod.mk.inj (Option.some.inj ht)
     obtain ⟨i1, i2, i3, i4⟩ := z8 ps _ _ _ (JI h) hr
     refine ⟨i1, by rw [List.map_cons, i2, yV hf], by have := I8 s hf; rw [List.length_cons]; omega, ?_⟩
     rw [List.reverse_cons]
     have key : ∀ (cs : List C) (a b : List C) (d : C), iX at_ lt a cs = some b → iX at_ lt a (cs ++ [d]) = iX at_ lt b [d] := by
      intro cs
      induction cs with
      | nil => intro a b d hab; unfold iX at hab; rw [Option.some.inj hab]; rfl
      | cons c cs ih =>
       intro a b d hab
       unfold iX at hab
       rw [List.cons_append]
       unfold iX
       split at hab
       ·cases hab
       ·rename_i hnot
        rw [if_neg hnot]
        have := ih _ b d hab
        rw [this]
        rfl
     rw [key _ _ _ c i4]
     unfold iX
     have hat : at_ c = p := yV hf
     rw [if_neg (by rw [hat, rH O s h]; simp), II O s h hf]
     rfl
   ·cases ht
end
end
section
open Go.RowKit
def su (n i : Nat) : UInt8 := UInt8.ofNat (n / 2 ^ (8 * i))
def bD (n w : Nat) : List UInt8 := (List.range w).map (su n)
def bO (l : List UInt8) : Nat := l.foldr (fun b a => b.toNat + 256 * a) 0
theorem JS (n w : Nat) : bD n (w + 1) = bD n w ++ [su n w] := by
 unfold bD; rw [List.range_succ, List.map_append]; rfl
theorem bQ (n w : Nat) : (bD n w).length = w := by simp [bD]
theorem Eb (n i : Nat) : (su n i).toNat = n / 2 ^ (8 * i) % 256 := by
 unfold su; rw [UInt8.toNat_ofNat']
theorem qO (b : UInt8) (l : List UInt8) : bO (b :: l) = b.toNat + 256 * bO l := rfl
theorem nM (l : List UInt8) (b : UInt8) : bO (l ++ [b]) = bO l + 2 ^ (8 * l.length) * b.toNat := by
 induction l with
 | nil => simp [bO]
 | cons a l ih =>
  rw [List.cons_append, qO, qO, ih, List.length_cons, Nat.mul_add, Nat.mul_add, Nat.pow_add, ← Nat.add_assoc, ← Nat.mul_assoc, Nat.mul_comm (2 ^ (8 * l.length)) (2 ^ (8 * 1))]
theorem jP (l : List UInt8) : bO l < 2 ^ (8 * l.length) := by
 induction l with
 | nil => simp [bO]
 | cons a l ih =>
  have := a.toNat_lt
  rw [qO, List.length_cons, Nat.mul_add, Nat.pow_add, show 2 ^ (8 * 1) = 256 from rfl]
  omega
theorem AU (n w : Nat) : bO (bD n w) = n % 2 ^ (8 * w) := by
 induction w with
 | zero => simp [bD, bO, Nat.mod_one]
 | succ w ih =>
  rw [JS, nM, ih, bQ, Eb, Nat.mul_add, Nat.pow_add, show 2 ^ (8 * 1) = 256 from rfl, Nat.mod_mul]
theorem JW (n : Nat) : su n 0 = UInt8.ofNat n := by simp [su]
theorem JU (n w : Nat) : bD n (w + 1) = UInt8.ofNat n :: bD (n / 256) w := by
 unfold bD
 rw [List.range_succ_eq_map, List.map_cons, List.map_map, JW]
 congr 1
 apply List.map_congr_left
 intro i _
 simp only [Function.comp, su, Nat.succ_eq_add_one, Nat.mul_add, Nat.pow_add, Nat.div_div_eq_div_mul]
 rw [Nat.mul_comm (2 ^ (8 * i))]
theorem Am (l : List UInt8) : bD (bO l) l.length = l := by
 induction l with
 | nil => rfl
 | cons b l ih =>
  have hb := b.toNat_lt
  rw [List.length_cons, JU, qO, show (b.toNat + 256 * bO l) / 256 = bO l by omega, ih]
  congr 1
  apply UInt8.toNat_inj.mp
  rw [UInt8.toNat_ofNat']
  omega
theorem Ti (l : List UInt8) (b : UInt8) (h : l.length < 8) : bits .or .u64 (bO l : Int) (IntKind.u64.wrap ((b.toNat : Int) * 2 ^ (8 * l.length))) = (bO (l ++ [b]) : Int) := by
 have h1 := jP l
 have h2 := jP (l ++ [b])
 have hb := b.toNat_lt
 have h3 : bO (l ++ [b]) < 2 ^ 64 := Nat.lt_of_lt_of_le h2 (Nat.pow_le_pow_right (by omega) (by simp; omega))
 have h4 := nM l b
 have h5 : bO l < 2 ^ 64 := by omega
 have h6 : 2 ^ (8 * l.length) * b.toNat < 2 ^ 64 := by omega
 have e1 : IntKind.u64.wrap ((b.toNat : Int) * 2 ^ (8 * l.length)) = ((2 ^ (8 * l.length) * b.toNat : Nat) : Int) := by
  have : (b.toNat : Int) * 2 ^ (8 * l.length) = ((2 ^ (8 * l.length) * b.toNat : Nat) : Int) := by push_cast; rw [Int.mul_comm]
  rw [this, IntKind.wrap_u64]; omega
 rw [e1]
 show IntKind.u64.wrap ((BitVec.ofInt 64 ((bO l : Nat) : Int) ||| BitVec.ofInt 64 ((2 ^ (8 * l.length) * b.toNat : Nat) : Int)).toNat : Int) = _
 rw [BitVec.ofInt_natCast, BitVec.ofInt_natCast, BitVec.toNat_or, BitVec.toNat_ofNat, BitVec.toNat_ofNat, Nat.mod_eq_of_lt h5, Nat.mod_eq_of_lt h6, Nat.or_comm, ← Nat.two_pow_add_eq_or_of_lt h1, Nat.add_comm, ← h4, IntKind.wrap_u64]
 omega
def kL (n : Nat) (wd : Int) : List UInt8 := if wd < 1 ∨ 8 < wd then [] else bD n wd.toNat
def cmpL (n : Nat) : List UInt8 := if n < 253 then bD n 1 else if n ≤ 65535 then 253 :: bD n 2 else if n ≤ 4294967295 then 254 :: bD n 4 else 255 :: bD n 8
def eZ (l : List UInt8) (wd : Int) : Nat × List UInt8 × Int := if wd < 1 ∨ 8 < wd then (0, [], 1) else if (l.length : Int) < wd then (0, [], 30) else (bO (l.take wd.toNat), l.drop wd.toNat, 0)
def eG (b : UInt8) : Nat := if b = 253 then 2 else if b = 254 then 4 else 8
def fH (l : List UInt8) : Nat × List UInt8 × Int :=
 match l with
 | [] => (0, [], 30)
 | b :: t => if b.toNat < 253 then (b.toNat, t, 0) else if t.length < eG b then (0, [], 30) else if (cmpL (bO (t.take (eG b)))).length = eG b + 1 then (bO (t.take (eG b)), t.drop (eG b), 0) else (0, [], 31)
def vL (l : List UInt8) : List UInt8 × List UInt8 × Int := if l.length < 32 then (List.replicate 32 0, [], 30) else (l.take 32, l.drop 32, 0)
end
section
open Go.RowKit
theorem Lv : (Tryz.prog.info? 5).map (fun i => (i.zero, i.size, i.bytes)) = some (some (.int .u8 0), 1, 1) := by kernel_rfl
theorem Nh (n j : Nat) : (n : Int) / 2 ^ (8 * j) % 256 = ((su n j).toNat : Int) := by
 rw [Eb, Int.natCast_emod, Int.natCast_ediv, Int.natCast_pow]; rfl
end
section
open Go.RowKit
def kC (r : Nat × List UInt8 × Int) : Value := .tuple #[.int .u64 r.1, .string ⟨r.2.1.toArray⟩, .int .i64 r.2.2]
theorem eu (s : ByteArray) : s.data.toList.length = s.size := Array.length_toList
theorem uT (s : ByteArray) (k : Nat) : s.extract k s.size = ⟨(s.data.toList.drop k).toArray⟩ := by
 apply ByteArray.ext
 rw [ByteArray.data_extract]
 apply Array.toList_inj.mp
 rw [Array.toList_extract, List.extract_eq_take_drop]
 rw [List.take_of_length_le (by rw [List.length_drop, eu]; omega)]
theorem Jd (s : ByteArray) (j : Nat) (h : j < s.size) : s.data.toList[j]'(by rw [eu]; exact h) = s[j] := by
 rw [Array.getElem_toList]; rfl
end
section
open Go.RowKit
def sG (wd : Int) : Bool := decide (1 ≤ wd) && decide (wd ≤ 8)
theorem xx (wd : Int) (w : World) :
 Calls Tryz.prog 69 #[.int .i64 wd] w fun e w' => e = .returned (.bool (sG wd)) ∧ w' = w := by
 by_cases h1 : 1 ≤ wd
 ·by_cases h8 : wd ≤ 8
  ·rw [show sG wd = true by simp [sG, h1, h8]]
   go_enter Tryz.func69, Tryz.ntmps69
   go_wp2
   go_ret
   exact ⟨rfl, rfl⟩
  ·rw [show sG wd = false by simp [sG, h8]]
   go_enter Tryz.func69, Tryz.ntmps69
   go_wp2
   go_ret
   exact ⟨rfl, rfl⟩
 ·rw [show sG wd = false by simp [sG, h1]]
  go_enter Tryz.func69, Tryz.ntmps69
  go_wp2
  go_ret
  exact ⟨rfl, rfl⟩
def pq (n : Nat) : Nat := if n < 253 then 1 else if n ≤ 65535 then 2 else if n ≤ 4294967295 then 4 else 8
def FQ (n : Nat) : Nat := if n < 253 then 252 else if n ≤ 65535 then 253 else if n ≤ 4294967295 then 254 else 255
theorem gF (n : Nat) (w : World) :
 Calls Tryz.prog 70 #[.int .u64 n] w fun e w' => e = .returned (.tuple #[.int .u64 (FQ n), .int .i64 (pq n)]) ∧ w' = w := by
 by_cases h1 : n < 253
 ·rw [show FQ n = 252 by simp [FQ, h1], show pq n = 1 by simp [pq, h1]]
  go_enter Tryz.func70, Tryz.ntmps70
  go_wp2
  go_ret2
  exact ⟨rfl, rfl⟩
 by_cases h2 : n ≤ 65535
 ·rw [show FQ n = 253 by simp [FQ, h1, h2], show pq n = 2 by simp [pq, h1, h2]]
  go_enter Tryz.func70, Tryz.ntmps70
  go_wp2
  go_ret2
  exact ⟨rfl, rfl⟩
 by_cases h3 : n ≤ 4294967295
 ·rw [show FQ n = 254 by simp [FQ, h1, h2, h3], show pq n = 4 by simp [pq, h1, h2, h3]]
  go_enter Tryz.func70, Tryz.ntmps70
  go_wp2
  go_ret2
  exact ⟨rfl, rfl⟩
 rw [show FQ n = 255 by simp [FQ, h1, h2, h3], show pq n = 8 by simp [pq, h1, h2, h3]]
 go_enter Tryz.func70, Tryz.ntmps70
 go_wp2
 go_ret2
 exact ⟨rfl, rfl⟩
theorem OX (w : World) : Calls Tryz.prog 194 #[.int .u64 65535] w fun e w' => e = .returned (.int .i64 16) ∧ w' = w := by
 go_enter Tryz.func194, Tryz.ntmps194
 go_wp2
 go_ret
 exact ⟨by kernel_rfl, rfl⟩
theorem OU (w : World) : Calls Tryz.prog 194 #[.int .u64 4294967295] w fun e w' => e = .returned (.int .i64 32) ∧ w' = w := by
 go_enter Tryz.func194, Tryz.ntmps194
 go_wp2
 go_ret
 exact ⟨by kernel_rfl, rfl⟩
theorem OT (w : World) : Calls Tryz.prog 194 #[.int .u64 18446744073709551615] w fun e w' => e = .returned (.int .i64 64) ∧ w' = w := by
 go_enter Tryz.func194, Tryz.ntmps194
 go_wp2
 go_ret
 exact ⟨by kernel_rfl, rfl⟩
end
section
open Go.RowKit
def qc (n m k : Nat) : List UInt8 := tab m fun i => if i < k then su n i else 0
theorem JV (n m : Nat) : qc n m m = bD n m := by
 unfold qc bD
 rw [qE m (fun i => if i < m then su n i else 0) (su n) (fun i hi => by rw [if_pos hi])]
 rfl
theorem SQ (n m : Nat) : madeCells #[Value.int .u8 0] m = ay (qc n m 0) := by
 apply Array.ext_getElem?
 intro i
 by_cases hi : i < m
 ·rw [gT _ _ (by unfold qc; rw [iJ]; exact hi), OH _ _ _ hi]; unfold qc; rw [qD]; rfl
 ·simp [madeCells, ay, qc, tab, hi]
theorem Fe {w : World} {g m : Nat} {t : TypeId} {l : List UInt8} (h : ax w g t (ay l)) (hm : l.length = m) :
 (convert 84 9 (.slice (some ⟨g, 0, none⟩) m m)).run Tryz.prog w = .ok (.string ⟨l.toArray⟩) w := by
 subst hm
 refine run_convert_bytes_back (P := Tryz.prog) w 84 9 5 ⟨g, 0, none⟩ l.length l Tryz.underlying84 Tryz.underlying5 Tryz.underlying9 (fun j hj => ?_)
 rw [show (⟨g, 0, none⟩ : Addr).add j = ⟨g, j, none⟩ by unfold Addr.add; split <;> simp_all, h.cell, gT _ _ hj]
theorem nN (n : Nat) (wd : Int) (w : World) :
 Calls Tryz.prog 46 #[.int .u64 n, .int .i64 wd] w fun e w' => e = .returned (.string ⟨(kL n wd).toArray⟩) ∧ Below w.heap.size w w' := by
 by_cases hw : wd < 1 ∨ 8 < wd
 ·rw [show kL n wd = [] by simp [kL, hw]]
  have hmw : sG wd = false := by simp [sG]; omega
  go_enter Tryz.func46, Tryz.ntmps46
  go_wp2_with fail
  refine (xx wd _).mono ?_
  rintro e w1 ⟨rfl, rfl⟩
  rw [hmw]
  go_wp2
  go_ret
  exact ⟨rfl, Below.refl _ _⟩
 have hmw : sG wd = true := by simp [sG]; omega
 obtain ⟨m, rfl⟩ : ∃ m : Nat, wd = m := ⟨wd.toNat, by omega⟩
 have hm1 : 1 ≤ m := by omega
 have WL : m ≤ 8 := by omega
 rw [show kL n (m : Int) = bD n m by simp [kL, hw]]
 have hmk : ∀ W, (Instr.makeSlice 84 (.int .i64 (m : Int)) (.int .i64 (m : Int))).run Tryz.prog W = .ok (.slice (some ⟨W.heap.size, 0, none⟩) m m) (W.alloc (.cells (ay (qc n m 0)) 5)) := fun W => by
  rw [← SQ]; exact nZ _ _ _ 1 Tryz.underlying84 Lv rfl (by omega) .i64 .i64 m (by omega) W
 go_enter Tryz.func46, Tryz.ntmps46
 go_wp2_with fail
 refine (xx m _).mono ?_
 rintro e w1 ⟨rfl, rfl⟩
 rw [hmw]
 clear hw hmw
 go_wp2_with fail
 clear hmk
 go_loopw [14] (fun i wr => ∃ k : Nat, k ≤ m ∧ i = .int .i64 k ∧ Hid (ax wr w1.heap.size 5 (ay (qc n m k))) ∧ Below w1.heap.size w1 wr) (fun i _ => m - (intOf i).toNat)
 case atStart =>
  exact ⟨0, by omega, rfl, qh (ax.new w1 5 (ay (qc n m 0))), (Below.refl _ _).alloc (Nat.le_refl _) _⟩
 case round =>
  obtain ⟨k, hk, rfl, HB, hb⟩ := hrel
  by_cases hlt : k < m
  ·go_wp2_with (refine aJ rfl 5 (.tmp 24) (.tmp 23) rfl rfl w1.heap.size k (.int .u8 ((su n k).toNat : Int)) rfl (by rw [← Nh]; rfl) rfl 5 _ HB.out (by rw [aO]; unfold qc; rw [iJ]; exact hlt) (by kernel_rfl) ?_; intro w3 o3 b3)
   go_roundw
   case rel =>
    refine ⟨k + 1, by omega, by go_num, qh ?_, hb.trans (o3.below (by simp))⟩
    rw [sP] at b3
    unfold qc at b3
    rw [xk m _ (fun i => if i < k + 1 then su n i else 0) _ _ (fun i hi => by
     by_cases e : i = k
     ·subst e
      rw [if_pos (by omega), if_pos rfl]
     ·rw [if_neg e]
      by_cases l : i < k
      ·rw [if_pos l, if_pos (by omega)]
      ·rw [if_neg l, if_neg (by omega)])] at b3
    exact b3
   case measure => simp [intOf]; omega
  ·have hkm : k = m := by omega
   subst hkm
   have HB' := HB.out
   rw [JV] at HB'
   have UI := Fe HB' (bQ _ _)
   clear HB'
   go_wp2
   go_ret
   exact ⟨rfl, hb⟩
theorem Hq (n : Nat) (h : n < 253) : cmpL n = kL n 1 := by simp [cmpL, kL, h]
theorem Sz (n : Nat) (h : ¬ n < 253) : cmpL n = kL (FQ n) 1 ++ kL n (pq n) := by
 by_cases h2 : n ≤ 65535
 ·simp [cmpL, FQ, pq, h, h2, kL]; rfl
 by_cases h3 : n ≤ 4294967295
 ·simp [cmpL, FQ, pq, h, h2, h3, kL]; rfl
 ·simp [cmpL, FQ, pq, h, h2, h3, kL]; rfl
theorem Q5 (n : Nat) (h : n < 253) : pq n = 1 := by simp [pq, h]
theorem Mf (n : Nat) (h : ¬ n < 253) : 1 < pq n ∧ pq n ≤ 8 := by unfold pq; rw [if_neg h]; split <;> (try split) <;> omega
theorem Ea (n m : Nat) (h1 : 1 ≤ m) (h8 : m ≤ 8) : (kL n m).length = m := by
 unfold kL; rw [if_neg (by omega), bQ]; omega
theorem kW (n : Nat) (w : World) :
 Calls Tryz.prog 47 #[.int .u64 n] w fun e w' => e = .returned (.string ⟨(cmpL n).toArray⟩) ∧ Below w.heap.size w w' := by
 by_cases h1 : n < 253
 ·rw [Hq n h1]
  have hw := Q5 n h1
  go_enter Tryz.func47, Tryz.ntmps47
  go_wp2_with fail
  refine (gF n _).mono ?_
  rintro e w1 ⟨rfl, rfl⟩
  rw [hw]
  go_wp2_with fail
  refine (nN n 1 _).mono ?_
  rintro e w2 ⟨rfl, b2⟩
  go_wp2
  go_ret
  exact ⟨rfl, b2⟩
 ·rw [Sz n h1]
  have hw := Mf n h1
  have hadd : ∀ V, (Op.stringOp .add ⟨(kL (FQ n) 1).toArray⟩ ⟨(kL n (pq n)).toArray⟩).run Tryz.prog V = .ok (.string ⟨(kL (FQ n) 1 ++ kL n (pq n)).toArray⟩) V := fun V => run_string_add_lists V _ _ (by rw [show (1 : Int) = ((1 : Nat) : Int) from rfl, Ea _ _ (by omega) (by omega)]; decide) (by rw [Ea _ _ (by omega) (by omega)]; omega)
  have HA := qh hadd
  clear hadd
  obtain ⟨k, hk⟩ : ∃ k : Nat, pq n = k := ⟨_, rfl⟩
  rw [hk] at hw HA
  rw [hk]
  have d1 : ((k : Int) == 1) = false := beq_eq_false_iff_ne.mpr (by omega)
  go_enter Tryz.func47, Tryz.ntmps47
  go_wp2_with fail
  refine (gF n _).mono ?_
  rintro e w1 ⟨rfl, rfl⟩
  rw [hk]
  go_wp2_with fail
  refine (nN (FQ n) 1 _).mono ?_
  rintro e w2 ⟨rfl, b2⟩
  go_wp2_with fail
  refine (nN n k _).mono ?_
  rintro e w3 ⟨rfl, b3⟩
  have hadd := HA.out
  go_wp2
  go_ret
  exact ⟨rfl, b2.trans (b3.mono b2.size)⟩
end
section
open Go.RowKit
theorem G7 (l : List UInt8) (b : UInt8) (h : l.length < 1) : bits .or .u8 (bO l : Int) (IntKind.u8.wrap ((b.toNat : Int) * 2 ^ (8 * l.length))) = (bO (l ++ [b]) : Int) := by
 have h1 := jP l
 have h2 := jP (l ++ [b])
 have hb := b.toNat_lt
 have h3 : bO (l ++ [b]) < 2 ^ 8 := Nat.lt_of_lt_of_le h2 (Nat.pow_le_pow_right (by omega) (by simp; omega))
 have h4 := nM l b
 have h5 : bO l < 2 ^ 8 := by omega
 have h6 : 2 ^ (8 * l.length) * b.toNat < 2 ^ 8 := by omega
 have e1 : IntKind.u8.wrap ((b.toNat : Int) * 2 ^ (8 * l.length)) = ((2 ^ (8 * l.length) * b.toNat : Nat) : Int) := by
  have : (b.toNat : Int) * 2 ^ (8 * l.length) = ((2 ^ (8 * l.length) * b.toNat : Nat) : Int) := by push_cast; rw [Int.mul_comm]
  rw [this, IntKind.wrap_u8]; omega
 rw [e1]
 show IntKind.u8.wrap ((BitVec.ofInt 8 ((bO l : Nat) : Int) ||| BitVec.ofInt 8 ((2 ^ (8 * l.length) * b.toNat : Nat) : Int)).toNat : Int) = _
 rw [BitVec.ofInt_natCast, BitVec.ofInt_natCast, BitVec.toNat_or, BitVec.toNat_ofNat, BitVec.toNat_ofNat, Nat.mod_eq_of_lt h5, Nat.mod_eq_of_lt h6, Nat.or_comm, ← Nat.two_pow_add_eq_or_of_lt h1, Nat.add_comm, ← h4, IntKind.wrap_u8]
 omega
theorem Rk (s : ByteArray) (j : Nat) (h : j < s.size) (h8 : j < 1) : bits .or .u8 (bO (s.data.toList.take j) : Int) (IntKind.u8.wrap ((s[j].toNat : Int) * 2 ^ (8 * j))) = (bO (s.data.toList.take (j + 1)) : Int) := by
 have hl : (s.data.toList.take j).length = j := by rw [List.length_take, eu]; omega
 have hj : j < s.data.toList.length := by rw [eu]; exact h
 rw [List.take_succ_eq_append_getElem hj, ← G7 _ _ (by omega), hl, Jd s j h]
def nE (r : Nat × List UInt8 × Int) : Value := .tuple #[.int .u8 r.1, .string ⟨r.2.1.toArray⟩, .int .i64 r.2.2]
theorem jV (s : ByteArray) (_hs : s.size ≤ 1000000) (m : Nat) (h1 : 1 ≤ m) (h8 : m ≤ 1) (w : World) :
 Calls Tryz.prog 128 #[.string s, .int .i64 m] w fun e w' => e = .returned (nE (eZ s.data.toList m)) ∧ Below w.heap.size w w' := by
 by_cases hm : s.size < m
 ·rw [show eZ s.data.toList (m : Int) = (0, [], 30) by unfold eZ; rw [if_neg (by omega), if_pos (by rw [eu]; omega)]]
  have hd : decide ((s.size : Int) < m) = true := by simp; omega
  go_enter Tryz.func128, Tryz.ntmps128
  go_wp2
  go_ret3
  exact ⟨rfl, Below.refl _ _⟩
 rw [show eZ s.data.toList (m : Int) = (bO (s.data.toList.take m), s.data.toList.drop m, 0) by unfold eZ; rw [if_neg (by omega), if_neg (by rw [eu]; omega)]; rfl]
 have hd : decide ((s.size : Int) < m) = false := by simp; omega
 have hsl : ∀ W, (Instr.slice 9 (.string s) (some (.int .i64 (m : Int))) none none).run Tryz.prog W = .ok (.string ⟨(s.data.toList.drop m).toArray⟩) W := fun W => by
  rw [run_slice_string_from_if W 9 s .i64 _ Tryz.underlying9, if_pos (by omega), ← uT]; rfl
 go_enter Tryz.func128, Tryz.ntmps128
 go_wp2_with fail
 go_loopw [7, 14] (fun v i wr => ∃ j : Nat, j ≤ m ∧ i = .int .i64 j ∧ v = .int .u8 (bO (s.data.toList.take j)) ∧ w = wr)
  (fun _ i _ => m - (intOf i).toNat)
 case atStart => exact ⟨0, by omega, rfl, rfl, rfl⟩
 case round =>
  obtain ⟨j, hj, rfl, rfl, rfl⟩ := hrel
  by_cases hlt : j < m
  ·have hjs : j < s.size := by omega
   have hg := Rk s j hjs (by omega)
   go_wp2_with fail
   go_roundw
   case rel =>
    refine ⟨j + 1, by omega, by go_num, ?_, trivial⟩
    rw [IntKind.wrap_u8] at hg; rw [hg]
   case measure => simp [intOf]; omega
  ·have hjm : j = m := by omega
   subst hjm
   go_wp2_with fail
   go_quiet (fail)
   go_wp2
   go_ret3
   exact ⟨rfl, below_drewN (Below.refl _ _) _⟩
theorem EI (l : List UInt8) (b : UInt8) (h : l.length < 2) : bits .or .u16 (bO l : Int) (IntKind.u16.wrap ((b.toNat : Int) * 2 ^ (8 * l.length))) = (bO (l ++ [b]) : Int) := by
 have h1 := jP l
 have h2 := jP (l ++ [b])
 have hb := b.toNat_lt
 have h3 : bO (l ++ [b]) < 2 ^ 16 := Nat.lt_of_lt_of_le h2 (Nat.pow_le_pow_right (by omega) (by simp; omega))
 have h4 := nM l b
 have h5 : bO l < 2 ^ 16 := by omega
 have h6 : 2 ^ (8 * l.length) * b.toNat < 2 ^ 16 := by omega
 have e1 : IntKind.u16.wrap ((b.toNat : Int) * 2 ^ (8 * l.length)) = ((2 ^ (8 * l.length) * b.toNat : Nat) : Int) := by
  have : (b.toNat : Int) * 2 ^ (8 * l.length) = ((2 ^ (8 * l.length) * b.toNat : Nat) : Int) := by push_cast; rw [Int.mul_comm]
  rw [this, IntKind.wrap_u16]; omega
 rw [e1]
 show IntKind.u16.wrap ((BitVec.ofInt 16 ((bO l : Nat) : Int) ||| BitVec.ofInt 16 ((2 ^ (8 * l.length) * b.toNat : Nat) : Int)).toNat : Int) = _
 rw [BitVec.ofInt_natCast, BitVec.ofInt_natCast, BitVec.toNat_or, BitVec.toNat_ofNat, BitVec.toNat_ofNat, Nat.mod_eq_of_lt h5, Nat.mod_eq_of_lt h6, Nat.or_comm, ← Nat.two_pow_add_eq_or_of_lt h1, Nat.add_comm, ← h4, IntKind.wrap_u16]
 omega
theorem MF (s : ByteArray) (j : Nat) (h : j < s.size) (h8 : j < 2) : bits .or .u16 (bO (s.data.toList.take j) : Int) (IntKind.u16.wrap ((s[j].toNat : Int) * 2 ^ (8 * j))) = (bO (s.data.toList.take (j + 1)) : Int) := by
 have hl : (s.data.toList.take j).length = j := by rw [List.length_take, eu]; omega
 have hj : j < s.data.toList.length := by rw [eu]; exact h
 rw [List.take_succ_eq_append_getElem hj, ← EI _ _ (by omega), hl, Jd s j h]
def qC (r : Nat × List UInt8 × Int) : Value := .tuple #[.int .u16 r.1, .string ⟨r.2.1.toArray⟩, .int .i64 r.2.2]
theorem BQ (s : ByteArray) (hs : s.size ≤ 1000000) (m : Nat) (h1 : 1 ≤ m) (h8 : m ≤ 2) (w : World) :
 Calls Tryz.prog 195 #[.string s, .int .i64 m] w fun e w' => e = .returned (qC (eZ s.data.toList m)) ∧ Below w.heap.size w w' := by
 by_cases hm : s.size < m
 ·rw [show eZ s.data.toList (m : Int) = (0, [], 30) by unfold eZ; rw [if_neg (by omega), if_pos (by rw [eu]; omega)]]
  have hd : decide ((s.size : Int) < m) = true := by simp; omega
  go_enter Tryz.func195, Tryz.ntmps195
  go_wp2
  go_ret3
  exact ⟨rfl, Below.refl _ _⟩
 rw [show eZ s.data.toList (m : Int) = (bO (s.data.toList.take m), s.data.toList.drop m, 0) by unfold eZ; rw [if_neg (by omega), if_neg (by rw [eu]; omega)]; rfl]
 have hd : decide ((s.size : Int) < m) = false := by simp; omega
 have hsl : ∀ W, (Instr.slice 9 (.string s) (some (.int .i64 (m : Int))) none none).run Tryz.prog W = .ok (.string ⟨(s.data.toList.drop m).toArray⟩) W := fun W => by
  rw [run_slice_string_from_if W 9 s .i64 _ Tryz.underlying9, if_pos (by omega), ← uT]; rfl
 go_enter Tryz.func195, Tryz.ntmps195
 go_wp2_with fail
 go_loopw [7, 14] (fun v i wr => ∃ j : Nat, j ≤ m ∧ i = .int .i64 j ∧ v = .int .u16 (bO (s.data.toList.take j)) ∧ w = wr)
  (fun _ i _ => m - (intOf i).toNat)
 case atStart => exact ⟨0, by omega, rfl, rfl, rfl⟩
 case round =>
  obtain ⟨j, hj, rfl, rfl, rfl⟩ := hrel
  by_cases hlt : j < m
  ·have hjs : j < s.size := by omega
   have hg := MF s j hjs (by omega)
   go_wp2_with fail
   go_roundw
   case rel =>
    refine ⟨j + 1, by omega, by go_num, ?_, trivial⟩
    rw [show IntKind.u16.wrap (s[j].toNat : Int) = s[j].toNat by rw [IntKind.wrap_u16]; have := s[j].toNat_lt; omega, hg]
   case measure => simp [intOf]; omega
  ·have hjm : j = m := by omega
   subst hjm
   go_wp2_with fail
   go_quiet (fail)
   go_wp2
   go_ret3
   exact ⟨rfl, below_drewN (Below.refl _ _) _⟩
theorem EH (l : List UInt8) (b : UInt8) (h : l.length < 4) : bits .or .u32 (bO l : Int) (IntKind.u32.wrap ((b.toNat : Int) * 2 ^ (8 * l.length))) = (bO (l ++ [b]) : Int) := by
 have h1 := jP l
 have h2 := jP (l ++ [b])
 have hb := b.toNat_lt
 have h3 : bO (l ++ [b]) < 2 ^ 32 := Nat.lt_of_lt_of_le h2 (Nat.pow_le_pow_right (by omega) (by simp; omega))
 have h4 := nM l b
 have h5 : bO l < 2 ^ 32 := by omega
 have h6 : 2 ^ (8 * l.length) * b.toNat < 2 ^ 32 := by omega
 have e1 : IntKind.u32.wrap ((b.toNat : Int) * 2 ^ (8 * l.length)) = ((2 ^ (8 * l.length) * b.toNat : Nat) : Int) := by
  have : (b.toNat : Int) * 2 ^ (8 * l.length) = ((2 ^ (8 * l.length) * b.toNat : Nat) : Int) := by push_cast; rw [Int.mul_comm]
  rw [this, IntKind.wrap_u32]; omega
 rw [e1]
 show IntKind.u32.wrap ((BitVec.ofInt 32 ((bO l : Nat) : Int) ||| BitVec.ofInt 32 ((2 ^ (8 * l.length) * b.toNat : Nat) : Int)).toNat : Int) = _
 rw [BitVec.ofInt_natCast, BitVec.ofInt_natCast, BitVec.toNat_or, BitVec.toNat_ofNat, BitVec.toNat_ofNat, Nat.mod_eq_of_lt h5, Nat.mod_eq_of_lt h6, Nat.or_comm, ← Nat.two_pow_add_eq_or_of_lt h1, Nat.add_comm, ← h4, IntKind.wrap_u32]
 omega
theorem ME (s : ByteArray) (j : Nat) (h : j < s.size) (h8 : j < 4) : bits .or .u32 (bO (s.data.toList.take j) : Int) (IntKind.u32.wrap ((s[j].toNat : Int) * 2 ^ (8 * j))) = (bO (s.data.toList.take (j + 1)) : Int) := by
 have hl : (s.data.toList.take j).length = j := by rw [List.length_take, eu]; omega
 have hj : j < s.data.toList.length := by rw [eu]; exact h
 rw [List.take_succ_eq_append_getElem hj, ← EH _ _ (by omega), hl, Jd s j h]
def qB (r : Nat × List UInt8 × Int) : Value := .tuple #[.int .u32 r.1, .string ⟨r.2.1.toArray⟩, .int .i64 r.2.2]
theorem BP (s : ByteArray) (hs : s.size ≤ 1000000) (m : Nat) (h1 : 1 ≤ m) (h8 : m ≤ 4) (w : World) :
 Calls Tryz.prog 196 #[.string s, .int .i64 m] w fun e w' => e = .returned (qB (eZ s.data.toList m)) ∧ Below w.heap.size w w' := by
 by_cases hm : s.size < m
 ·rw [show eZ s.data.toList (m : Int) = (0, [], 30) by unfold eZ; rw [if_neg (by omega), if_pos (by rw [eu]; omega)]]
  have hd : decide ((s.size : Int) < m) = true := by simp; omega
  go_enter Tryz.func196, Tryz.ntmps196
  go_wp2
  go_ret3
  exact ⟨rfl, Below.refl _ _⟩
 rw [show eZ s.data.toList (m : Int) = (bO (s.data.toList.take m), s.data.toList.drop m, 0) by unfold eZ; rw [if_neg (by omega), if_neg (by rw [eu]; omega)]; rfl]
 have hd : decide ((s.size : Int) < m) = false := by simp; omega
 have hsl : ∀ W, (Instr.slice 9 (.string s) (some (.int .i64 (m : Int))) none none).run Tryz.prog W = .ok (.string ⟨(s.data.toList.drop m).toArray⟩) W := fun W => by
  rw [run_slice_string_from_if W 9 s .i64 _ Tryz.underlying9, if_pos (by omega), ← uT]; rfl
 go_enter Tryz.func196, Tryz.ntmps196
 go_wp2_with fail
 go_loopw [7, 14] (fun v i wr => ∃ j : Nat, j ≤ m ∧ i = .int .i64 j ∧ v = .int .u32 (bO (s.data.toList.take j)) ∧ w = wr)
  (fun _ i _ => m - (intOf i).toNat)
 case atStart => exact ⟨0, by omega, rfl, rfl, rfl⟩
 case round =>
  obtain ⟨j, hj, rfl, rfl, rfl⟩ := hrel
  by_cases hlt : j < m
  ·have hjs : j < s.size := by omega
   have hg := ME s j hjs (by omega)
   go_wp2_with fail
   go_roundw
   case rel =>
    refine ⟨j + 1, by omega, by go_num, ?_, trivial⟩
    rw [IntKind.wrap_u32] at hg; rw [show (s[j].toNat : Int) % 4294967296 = s[j].toNat by have := s[j].toNat_lt; omega, hg]
   case measure => simp [intOf]; omega
  ·have hjm : j = m := by omega
   subst hjm
   go_wp2_with fail
   go_quiet (fail)
   go_wp2
   go_ret3
   exact ⟨rfl, below_drewN (Below.refl _ _) _⟩
theorem EG (l : List UInt8) (b : UInt8) (h : l.length < 8) : bits .or .u64 (bO l : Int) (IntKind.u64.wrap ((b.toNat : Int) * 2 ^ (8 * l.length))) = (bO (l ++ [b]) : Int) := Ti l b h
theorem MC (s : ByteArray) (j : Nat) (h : j < s.size) (h8 : j < 8) : bits .or .u64 (bO (s.data.toList.take j) : Int) (IntKind.u64.wrap ((s[j].toNat : Int) * 2 ^ (8 * j))) = (bO (s.data.toList.take (j + 1)) : Int) := by
 have hl : (s.data.toList.take j).length = j := by rw [List.length_take, eu]; omega
 have hj : j < s.data.toList.length := by rw [eu]; exact h
 rw [List.take_succ_eq_append_getElem hj, ← EG _ _ (by omega), hl, Jd s j h]
def nG (r : Nat × List UInt8 × Int) : Value := .tuple #[.int .u64 r.1, .string ⟨r.2.1.toArray⟩, .int .i64 r.2.2]
theorem tN (s : ByteArray) (hs : s.size ≤ 1000000) (m : Nat) (h1 : 1 ≤ m) (h8 : m ≤ 8) (w : World) :
 Calls Tryz.prog 193 #[.string s, .int .i64 m] w fun e w' => e = .returned (nG (eZ s.data.toList m)) ∧ Below w.heap.size w w' := by
 by_cases hm : s.size < m
 ·rw [show eZ s.data.toList (m : Int) = (0, [], 30) by unfold eZ; rw [if_neg (by omega), if_pos (by rw [eu]; omega)]]
  have hd : decide ((s.size : Int) < m) = true := by simp; omega
  go_enter Tryz.func193, Tryz.ntmps193
  go_wp2
  go_ret3
  exact ⟨rfl, Below.refl _ _⟩
 rw [show eZ s.data.toList (m : Int) = (bO (s.data.toList.take m), s.data.toList.drop m, 0) by unfold eZ; rw [if_neg (by omega), if_neg (by rw [eu]; omega)]; rfl]
 have hd : decide ((s.size : Int) < m) = false := by simp; omega
 have hsl : ∀ W, (Instr.slice 9 (.string s) (some (.int .i64 (m : Int))) none none).run Tryz.prog W = .ok (.string ⟨(s.data.toList.drop m).toArray⟩) W := fun W => by
  rw [run_slice_string_from_if W 9 s .i64 _ Tryz.underlying9, if_pos (by omega), ← uT]; rfl
 go_enter Tryz.func193, Tryz.ntmps193
 go_wp2_with fail
 go_loopw [7, 14] (fun v i wr => ∃ j : Nat, j ≤ m ∧ i = .int .i64 j ∧ v = .int .u64 (bO (s.data.toList.take j)) ∧ w = wr)
  (fun _ i _ => m - (intOf i).toNat)
 case atStart => exact ⟨0, by omega, rfl, rfl, rfl⟩
 case round =>
  obtain ⟨j, hj, rfl, rfl, rfl⟩ := hrel
  by_cases hlt : j < m
  ·have hjs : j < s.size := by omega
   have hg := MC s j hjs (by omega)
   go_wp2_with fail
   go_roundw
   case rel =>
    refine ⟨j + 1, by omega, by go_num, ?_, trivial⟩
    rw [show IntKind.u64.wrap (s[j].toNat : Int) = s[j].toNat by rw [IntKind.wrap_u64]; have := s[j].toNat_lt; omega, hg]
   case measure => simp [intOf]; omega
  ·have hjm : j = m := by omega
   subst hjm
   go_wp2_with fail
   go_quiet (fail)
   go_wp2
   go_ret3
   exact ⟨rfl, below_drewN (Below.refl _ _) _⟩
end
section
open Go.RowKit
end
section
open Go.RowKit
theorem I4 (s : ByteArray) (hs : s.size ≤ 1000000) (wd : Int) (w : World) :
 Calls Tryz.prog 127 #[.string s, .int .i64 wd] w fun e w' => e = .returned (kC (eZ s.data.toList wd)) ∧ Below w.heap.size w w' := by
 by_cases hw : wd < 1 ∨ 8 < wd
 ·rw [show eZ s.data.toList wd = (0, [], 1) by simp [eZ, hw]]
  have hmw : sG wd = false := by simp [sG]; omega
  go_enter Tryz.func127, Tryz.ntmps127
  go_wp2_with fail
  refine (xx wd _).mono ?_
  rintro e w1 ⟨rfl, rfl⟩
  rw [hmw]
  go_wp2
  go_ret3
  exact ⟨rfl, Below.refl _ _⟩
 have hmw : sG wd = true := by simp [sG]; omega
 obtain ⟨m, rfl⟩ : ∃ m : Nat, wd = m := ⟨wd.toNat, by omega⟩
 have HT := qh (tN s hs m (by omega) (by omega))
 obtain ⟨r, hr⟩ : ∃ r, eZ s.data.toList m = r := ⟨_, rfl⟩
 rw [hr] at HT
 rw [hr]
 clear hr hw
 go_enter Tryz.func127, Tryz.ntmps127
 go_wp2_with fail
 refine (xx m _).mono ?_
 rintro e w1 ⟨rfl, rfl⟩
 rw [hmw]
 go_wp2_with fail
 refine (HT.out _).mono ?_
 rintro e w2 ⟨rfl, b2⟩
 unfold nG
 go_wp2
 go_ret3
 exact ⟨rfl, b2⟩
def fo (l : List UInt8) (m : Nat) : Nat × List UInt8 × Int := if l.length < m then (0, [], 30) else if pq (bO (l.take m)) < m then (0, [], 31) else (bO (l.take m), l.drop m, 0)
theorem zg (n : Nat) : (cmpL n).length = if n < 253 then 1 else pq n + 1 := by
 unfold cmpL pq
 by_cases h1 : n < 253
 ·simp [h1, bQ]
 by_cases h2 : n ≤ 65535
 ·simp [h1, h2, bQ]
 by_cases h3 : n ≤ 4294967295
 ·simp [h1, h2, h3, bQ]
 ·simp [h1, h2, h3, bQ]
theorem Me (n m : Nat) (hm : m = 2 ∨ m = 4 ∨ m = 8) (hn : n < 2 ^ (8 * m)) : (cmpL n).length = m + 1 ↔ ¬ pq n < m := by
 rw [zg]
 unfold pq
 rcases hm with rfl | rfl | rfl
 ·by_cases h1 : n < 253
  ·simp [h1]
  ·have h2 : n ≤ 65535 := by omega
   simp [h1, h2]
 ·by_cases h1 : n < 253
  ·simp [h1]
  by_cases h2 : n ≤ 65535
  ·simp [h1, h2]
  ·have h3 : n ≤ 4294967295 := by omega
   simp [h1, h2, h3]
 ·by_cases h1 : n < 253
  ·simp [h1]
  by_cases h2 : n ≤ 65535
  ·simp [h1, h2]
  by_cases h3 : n ≤ 4294967295
  ·simp [h1, h2, h3]
  ·simp [h1, h2, h3]
theorem qA (l : List UInt8) (m : Nat) : bO (l.take m) < 2 ^ (8 * m) :=
 Nat.lt_of_lt_of_le (jP _) (Nat.pow_le_pow_right (by omega) (by rw [List.length_take]; omega))
theorem iE (b : UInt8) (t : List UInt8) (hb : ¬ b.toNat < 253) : fH (b :: t) = fo t (eG b) := by
 have hm : eG b = 2 ∨ eG b = 4 ∨ eG b = 8 := by unfold eG; split <;> (try split) <;> simp
 simp only [fH, if_neg hb]
 unfold fo
 by_cases h : t.length < eG b
 ·rw [if_pos h, if_pos h]
 rw [if_neg h, if_neg h]
 have hi := Me (bO (t.take (eG b))) (eG b) hm (qA _ _)
 by_cases h2 : pq (bO (t.take (eG b))) < eG b
 ·rw [if_pos h2, if_neg (fun h3 => hi.1 h3 h2)]
 ·rw [if_neg h2, if_pos (hi.2 h2)]
theorem yI (s : ByteArray) (hs : s.size ≤ 1000000) (w : World) :
 Calls Tryz.prog 129 #[.string s] w fun e w' => e = .returned (kC (fo s.data.toList 2)) ∧ Below w.heap.size w w' := by
 have HT := qh (BQ s hs 2 (by omega) (by omega))
 have hlt : bO (s.data.toList.take 2) < 65536 := qA s.data.toList 2
 by_cases hsh : s.data.toList.length < 2
 ·have hg : eZ s.data.toList (2 : Nat) = (0, [], 30) := by unfold eZ; rw [if_neg (by omega), if_pos (by omega)]
  rw [show fo s.data.toList 2 = (0, [], 30) by unfold fo; rw [if_pos hsh]]
  clear hlt hsh
  go_enter Tryz.func129, Tryz.ntmps129
  go_wp2_with fail
  refine (OX _).mono ?_
  rintro e w0 ⟨rfl, rfl⟩
  go_wp2_with fail
  refine (HT.out _).mono ?_
  rintro e w1 ⟨rfl, b1⟩
  rw [hg]
  unfold qC
  go_wp2_with fail
  refine (gF 0 _).mono ?_
  rintro e w2 ⟨rfl, rfl⟩
  go_wp2
  go_ret3
  exact ⟨rfl, b1⟩
 have hg : eZ s.data.toList (2 : Nat) = (bO (s.data.toList.take 2), s.data.toList.drop 2, 0) := by unfold eZ; rw [if_neg (by omega), if_neg (by omega)]; rfl
 have hcv : IntKind.u64.wrap (bO (s.data.toList.take 2) : Int) = (bO (s.data.toList.take 2) : Int) := by rw [IntKind.wrap_u64]; omega
 by_cases hw : pq (bO (s.data.toList.take 2)) < 2
 ·rw [show fo s.data.toList 2 = (0, [], 31) by unfold fo; rw [if_neg hsh, if_pos hw]]
  obtain ⟨n, hn⟩ : ∃ n, bO (s.data.toList.take 2) = n := ⟨_, rfl⟩
  rw [hn] at hw hlt hg hcv
  clear hn hsh
  go_enter Tryz.func129, Tryz.ntmps129
  go_wp2_with fail
  refine (OX _).mono ?_
  rintro e w0 ⟨rfl, rfl⟩
  go_wp2_with fail
  refine (HT.out _).mono ?_
  rintro e w1 ⟨rfl, b1⟩
  rw [hg]
  unfold qC
  go_wp2_with fail
  refine (gF n _).mono ?_
  rintro e w2 ⟨rfl, rfl⟩
  go_wp2
  go_ret3
  exact ⟨rfl, b1⟩
 ·rw [show fo s.data.toList 2 = (bO (s.data.toList.take 2), s.data.toList.drop 2, 0) by unfold fo; rw [if_neg hsh, if_neg hw]]
  obtain ⟨n, hn⟩ : ∃ n, bO (s.data.toList.take 2) = n := ⟨_, rfl⟩
  obtain ⟨d, hd⟩ : ∃ d, s.data.toList.drop 2 = d := ⟨_, rfl⟩
  rw [hn] at hw hlt hg hcv
  rw [hd] at hg
  rw [hn, hd]
  clear hn hsh hd
  go_enter Tryz.func129, Tryz.ntmps129
  go_wp2_with fail
  refine (OX _).mono ?_
  rintro e w0 ⟨rfl, rfl⟩
  go_wp2_with fail
  refine (HT.out _).mono ?_
  rintro e w1 ⟨rfl, b1⟩
  rw [hg]
  unfold qC
  go_wp2_with fail
  refine (gF n _).mono ?_
  rintro e w2 ⟨rfl, rfl⟩
  go_wp2
  go_ret3
  exact ⟨rfl, b1⟩
theorem yH (s : ByteArray) (hs : s.size ≤ 1000000) (w : World) :
 Calls Tryz.prog 130 #[.string s] w fun e w' => e = .returned (kC (fo s.data.toList 4)) ∧ Below w.heap.size w w' := by
 have HT := qh (BP s hs 4 (by omega) (by omega))
 have hlt : bO (s.data.toList.take 4) < 4294967296 := qA s.data.toList 4
 by_cases hsh : s.data.toList.length < 4
 ·have hg : eZ s.data.toList (4 : Nat) = (0, [], 30) := by unfold eZ; rw [if_neg (by omega), if_pos (by omega)]
  rw [show fo s.data.toList 4 = (0, [], 30) by unfold fo; rw [if_pos hsh]]
  clear hlt hsh
  go_enter Tryz.func130, Tryz.ntmps130
  go_wp2_with fail
  refine (OU _).mono ?_
  rintro e w0 ⟨rfl, rfl⟩
  go_wp2_with fail
  refine (HT.out _).mono ?_
  rintro e w1 ⟨rfl, b1⟩
  rw [hg]
  unfold qB
  go_wp2_with fail
  refine (gF 0 _).mono ?_
  rintro e w2 ⟨rfl, rfl⟩
  go_wp2
  go_ret3
  exact ⟨rfl, b1⟩
 have hg : eZ s.data.toList (4 : Nat) = (bO (s.data.toList.take 4), s.data.toList.drop 4, 0) := by unfold eZ; rw [if_neg (by omega), if_neg (by omega)]; rfl
 have hcv : IntKind.u64.wrap (bO (s.data.toList.take 4) : Int) = (bO (s.data.toList.take 4) : Int) := by rw [IntKind.wrap_u64]; omega
 by_cases hw : pq (bO (s.data.toList.take 4)) < 4
 ·rw [show fo s.data.toList 4 = (0, [], 31) by unfold fo; rw [if_neg hsh, if_pos hw]]
  obtain ⟨n, hn⟩ : ∃ n, bO (s.data.toList.take 4) = n := ⟨_, rfl⟩
  rw [hn] at hw hlt hg hcv
  clear hn hsh
  go_enter Tryz.func130, Tryz.ntmps130
  go_wp2_with fail
  refine (OU _).mono ?_
  rintro e w0 ⟨rfl, rfl⟩
  go_wp2_with fail
  refine (HT.out _).mono ?_
  rintro e w1 ⟨rfl, b1⟩
  rw [hg]
  unfold qB
  go_wp2_with fail
  refine (gF n _).mono ?_
  rintro e w2 ⟨rfl, rfl⟩
  go_wp2
  go_ret3
  exact ⟨rfl, b1⟩
 ·rw [show fo s.data.toList 4 = (bO (s.data.toList.take 4), s.data.toList.drop 4, 0) by unfold fo; rw [if_neg hsh, if_neg hw]]
  obtain ⟨n, hn⟩ : ∃ n, bO (s.data.toList.take 4) = n := ⟨_, rfl⟩
  obtain ⟨d, hd⟩ : ∃ d, s.data.toList.drop 4 = d := ⟨_, rfl⟩
  rw [hn] at hw hlt hg hcv
  rw [hd] at hg
  rw [hn, hd]
  clear hn hsh hd
  go_enter Tryz.func130, Tryz.ntmps130
  go_wp2_with fail
  refine (OU _).mono ?_
  rintro e w0 ⟨rfl, rfl⟩
  go_wp2_with fail
  refine (HT.out _).mono ?_
  rintro e w1 ⟨rfl, b1⟩
  rw [hg]
  unfold qB
  go_wp2_with fail
  refine (gF n _).mono ?_
  rintro e w2 ⟨rfl, rfl⟩
  go_wp2
  go_ret3
  exact ⟨rfl, b1⟩
theorem yG (s : ByteArray) (hs : s.size ≤ 1000000) (w : World) :
 Calls Tryz.prog 131 #[.string s] w fun e w' => e = .returned (kC (fo s.data.toList 8)) ∧ Below w.heap.size w w' := by
 have HT := qh (tN s hs 8 (by omega) (by omega))
 have hlt : bO (s.data.toList.take 8) < 18446744073709551616 := qA s.data.toList 8
 by_cases hsh : s.data.toList.length < 8
 ·have hg : eZ s.data.toList (8 : Nat) = (0, [], 30) := by unfold eZ; rw [if_neg (by omega), if_pos (by omega)]
  rw [show fo s.data.toList 8 = (0, [], 30) by unfold fo; rw [if_pos hsh]]
  clear hlt hsh
  go_enter Tryz.func131, Tryz.ntmps131
  go_wp2_with fail
  refine (OT _).mono ?_
  rintro e w0 ⟨rfl, rfl⟩
  go_wp2_with fail
  refine (HT.out _).mono ?_
  rintro e w1 ⟨rfl, b1⟩
  rw [hg]
  unfold nG
  go_wp2_with fail
  refine (gF 0 _).mono ?_
  rintro e w2 ⟨rfl, rfl⟩
  go_wp2
  go_ret3
  exact ⟨rfl, b1⟩
 have hg : eZ s.data.toList (8 : Nat) = (bO (s.data.toList.take 8), s.data.toList.drop 8, 0) := by unfold eZ; rw [if_neg (by omega), if_neg (by omega)]; rfl
 by_cases hw : pq (bO (s.data.toList.take 8)) < 8
 ·rw [show fo s.data.toList 8 = (0, [], 31) by unfold fo; rw [if_neg hsh, if_pos hw]]
  obtain ⟨n, hn⟩ : ∃ n, bO (s.data.toList.take 8) = n := ⟨_, rfl⟩
  rw [hn] at hw hlt hg
  clear hn hsh
  go_enter Tryz.func131, Tryz.ntmps131
  go_wp2_with fail
  refine (OT _).mono ?_
  rintro e w0 ⟨rfl, rfl⟩
  go_wp2_with fail
  refine (HT.out _).mono ?_
  rintro e w1 ⟨rfl, b1⟩
  rw [hg]
  unfold nG
  go_wp2_with fail
  refine (gF n _).mono ?_
  rintro e w2 ⟨rfl, rfl⟩
  go_wp2
  go_ret3
  exact ⟨rfl, b1⟩
 ·rw [show fo s.data.toList 8 = (bO (s.data.toList.take 8), s.data.toList.drop 8, 0) by unfold fo; rw [if_neg hsh, if_neg hw]]
  obtain ⟨n, hn⟩ : ∃ n, bO (s.data.toList.take 8) = n := ⟨_, rfl⟩
  obtain ⟨d, hd⟩ : ∃ d, s.data.toList.drop 8 = d := ⟨_, rfl⟩
  rw [hn] at hw hlt hg
  rw [hd] at hg
  rw [hn, hd]
  clear hn hsh hd
  go_enter Tryz.func131, Tryz.ntmps131
  go_wp2_with fail
  refine (OT _).mono ?_
  rintro e w0 ⟨rfl, rfl⟩
  go_wp2_with fail
  refine (HT.out _).mono ?_
  rintro e w1 ⟨rfl, b1⟩
  rw [hg]
  unfold nG
  go_wp2_with fail
  refine (gF n _).mono ?_
  rintro e w2 ⟨rfl, rfl⟩
  go_wp2
  go_ret3
  exact ⟨rfl, b1⟩
theorem MU (s : ByteArray) (hs : s.size ≤ 1000000) (hl : s.data.toList = []) (w : World) :
 Calls Tryz.prog 81 #[.string s] w fun e w' => e = .returned (kC (fH s.data.toList)) ∧ Below w.heap.size w w' := by
 have HT := qh (jV s hs 1 (by omega) (by omega))
 have hg : eZ s.data.toList (1 : Nat) = (0, [], 30) := by rw [hl]; rfl
 rw [show fH s.data.toList = (0, [], 30) by rw [hl]; rfl]
 go_enter Tryz.func81, Tryz.ntmps81
 go_wp2_with fail
 refine (HT.out _).mono ?_
 rintro e w1 ⟨rfl, b1⟩
 rw [hg]
 unfold nE
 go_wp2
 go_ret3
 exact ⟨rfl, b1⟩
theorem xz (b : UInt8) (t : List UInt8) : eZ (b :: t) (1 : Nat) = (b.toNat, t, 0) := by
 unfold eZ; rw [if_neg (by omega), if_neg (by rw [List.length_cons]; omega)]; simp [bO]
theorem MS (s : ByteArray) (b : UInt8) (t : List UInt8) (hs : s.size ≤ 1000000) (hl : s.data.toList = b :: t) (hb : b.toNat < 253) (w : World) :
 Calls Tryz.prog 81 #[.string s] w fun e w' => e = .returned (kC (fH s.data.toList)) ∧ Below w.heap.size w w' := by
 have HT := qh (jV s hs 1 (by omega) (by omega))
 have hg : eZ s.data.toList (1 : Nat) = (b.toNat, t, 0) := by rw [hl]; exact xz b t
 rw [show fH s.data.toList = (b.toNat, t, 0) by rw [hl]; simp [fH, hb]]
 clear hl
 have d2 : ((b.toNat : Int) == 253) = false := beq_eq_false_iff_ne.mpr (by omega)
 have d3 : ((b.toNat : Int) == 254) = false := beq_eq_false_iff_ne.mpr (by omega)
 have d4 : ((b.toNat : Int) == 255) = false := beq_eq_false_iff_ne.mpr (by omega)
 have hw : IntKind.u64.wrap (b.toNat : Int) = (b.toNat : Int) := by rw [IntKind.wrap_u64]; omega
 go_enter Tryz.func81, Tryz.ntmps81
 go_wp2_with fail
 refine (HT.out _).mono ?_
 rintro e w1 ⟨rfl, b1⟩
 rw [hg]
 unfold nE
 go_wp2
 go_ret3
 exact ⟨rfl, b1⟩
theorem MZ (s : ByteArray) (t : List UInt8) (hs : s.size ≤ 1000000) (hl : s.data.toList = 253 :: t) (w : World) :
 Calls Tryz.prog 81 #[.string s] w fun e w' => e = .returned (kC (fH s.data.toList)) ∧ Below w.heap.size w w' := by
 have HT := qh (jV s hs 1 (by omega) (by omega))
 have hz : s.size = t.length + 1 := by rw [← eu, hl]; rfl
 have hg : eZ s.data.toList (1 : Nat) = (253, t, 0) := by rw [hl]; exact xz 253 t
 have HM := yI ⟨t.toArray⟩ (by rw [← eu]; show t.length ≤ 1000000; omega)
 rw [show fH s.data.toList = fo t 2 by rw [hl]; exact iE 253 t (by decide)]
 rw [show (ByteArray.mk t.toArray).data.toList = t from rfl] at HM
 obtain ⟨r, hr⟩ : ∃ r, fo t 2 = r := ⟨_, rfl⟩
 rw [hr] at HM
 rw [hr]
 replace HM := qh HM
 clear hl hz
 go_enter Tryz.func81, Tryz.ntmps81
 go_wp2_with fail
 refine (HT.out _).mono ?_
 rintro e w1 ⟨rfl, b1⟩
 rw [hg]
 unfold nE
 go_wp2_with fail
 refine (HM.out _).mono ?_
 rintro e w2 ⟨rfl, b2⟩
 have B2 := b1.trans (b2.mono b1.size)
 unfold kC
 go_wp2
 go_ret3
 exact ⟨rfl, B2⟩
theorem MX (s : ByteArray) (t : List UInt8) (hs : s.size ≤ 1000000) (hl : s.data.toList = 254 :: t) (w : World) :
 Calls Tryz.prog 81 #[.string s] w fun e w' => e = .returned (kC (fH s.data.toList)) ∧ Below w.heap.size w w' := by
 have HT := qh (jV s hs 1 (by omega) (by omega))
 have hz : s.size = t.length + 1 := by rw [← eu, hl]; rfl
 have hg : eZ s.data.toList (1 : Nat) = (254, t, 0) := by rw [hl]; exact xz 254 t
 have HM := yH ⟨t.toArray⟩ (by rw [← eu]; show t.length ≤ 1000000; omega)
 rw [show fH s.data.toList = fo t 4 by rw [hl]; exact iE 254 t (by decide)]
 rw [show (ByteArray.mk t.toArray).data.toList = t from rfl] at HM
 obtain ⟨r, hr⟩ : ∃ r, fo t 4 = r := ⟨_, rfl⟩
 rw [hr] at HM
 rw [hr]
 replace HM := qh HM
 clear hl hz
 go_enter Tryz.func81, Tryz.ntmps81
 go_wp2_with fail
 refine (HT.out _).mono ?_
 rintro e w1 ⟨rfl, b1⟩
 rw [hg]
 unfold nE
 go_wp2_with fail
 refine (HM.out _).mono ?_
 rintro e w2 ⟨rfl, b2⟩
 have B2 := b1.trans (b2.mono b1.size)
 unfold kC
 go_wp2
 go_ret3
 exact ⟨rfl, B2⟩
theorem MV (s : ByteArray) (t : List UInt8) (hs : s.size ≤ 1000000) (hl : s.data.toList = 255 :: t) (w : World) :
 Calls Tryz.prog 81 #[.string s] w fun e w' => e = .returned (kC (fH s.data.toList)) ∧ Below w.heap.size w w' := by
 have HT := qh (jV s hs 1 (by omega) (by omega))
 have hz : s.size = t.length + 1 := by rw [← eu, hl]; rfl
 have hg : eZ s.data.toList (1 : Nat) = (255, t, 0) := by rw [hl]; exact xz 255 t
 have HM := yG ⟨t.toArray⟩ (by rw [← eu]; show t.length ≤ 1000000; omega)
 rw [show fH s.data.toList = fo t 8 by rw [hl]; exact iE 255 t (by decide)]
 rw [show (ByteArray.mk t.toArray).data.toList = t from rfl] at HM
 obtain ⟨r, hr⟩ : ∃ r, fo t 8 = r := ⟨_, rfl⟩
 rw [hr] at HM
 rw [hr]
 replace HM := qh HM
 clear hl hz
 go_enter Tryz.func81, Tryz.ntmps81
 go_wp2_with fail
 refine (HT.out _).mono ?_
 rintro e w1 ⟨rfl, b1⟩
 rw [hg]
 unfold nE
 go_wp2_with fail
 refine (HM.out _).mono ?_
 rintro e w2 ⟨rfl, b2⟩
 have B2 := b1.trans (b2.mono b1.size)
 unfold kC
 go_wp2
 go_ret3
 exact ⟨rfl, B2⟩
theorem DY (s : ByteArray) (hs : s.size ≤ 1000000) (w : World) :
 Calls Tryz.prog 81 #[.string s] w fun e w' => e = .returned (kC (fH s.data.toList)) ∧ Below w.heap.size w w' := by
 cases hl : s.data.toList with
 | nil => rw [← hl]; exact MU s hs hl w
 | cons b t =>
  rw [← hl]
  by_cases h : b.toNat < 253
  ·exact MS s b t hs hl h w
  ·have hb := b.toNat_lt
   have h3 : b = 253 ∨ b = 254 ∨ b = 255 := by
    have : b.toNat = 253 ∨ b.toNat = 254 ∨ b.toNat = 255 := by omega
    rcases this with e | e | e
    ·exact .inl (UInt8.toNat_inj.mp e)
    ·exact .inr (.inl (UInt8.toNat_inj.mp e))
    ·exact .inr (.inr (UInt8.toNat_inj.mp e))
   rcases h3 with rfl | rfl | rfl
   ·exact MZ s t hs hl w
   ·exact MX s t hs hl w
   ·exact MV s t hs hl w
end
section
open Go.RowKit
def zL (r : List UInt8 × List UInt8 × Int) : Value := .tuple #[.agg (ay r.1), .string ⟨r.2.1.toArray⟩, .int .i64 r.2.2]
theorem XH : (#[Value.int .u8 0, Value.int .u8 0, Value.int .u8 0, Value.int .u8 0, Value.int .u8 0, Value.int .u8 0, Value.int .u8 0, Value.int .u8 0, Value.int .u8 0, Value.int .u8 0, Value.int .u8 0, Value.int .u8 0, Value.int .u8 0, Value.int .u8 0, Value.int .u8 0, Value.int .u8 0, Value.int .u8 0, Value.int .u8 0, Value.int .u8 0, Value.int .u8 0, Value.int .u8 0, Value.int .u8 0, Value.int .u8 0, Value.int .u8 0, Value.int .u8 0, Value.int .u8 0, Value.int .u8 0, Value.int .u8 0, Value.int .u8 0, Value.int .u8 0, Value.int .u8 0, Value.int .u8 0] : Array Value) = ay (List.replicate 32 0) := by kernel_rfl
theorem xO (l : List UInt8) (h : l.length = 32) : (Tryz.prog.info? 26).map (·.size) = some (ay l).size := by rw [aO, h]; kernel_rfl
theorem Af : (List.replicate 32 (0 : UInt8)).length = 32 := by simp
theorem Kv (s : ByteArray) (h : s.size < 32) (w : World) :
 Calls Tryz.prog 75 #[.string s] w fun e w' => e = .returned (zL (vL s.data.toList)) ∧ Below w.heap.size w w' := by
 rw [show vL s.data.toList = (List.replicate 32 0, [], 30) by unfold vL; rw [if_pos (by rw [eu]; exact h)]]
 have hd : decide ((s.size : Int) < 32) = true := by simp; omega
 go_enter Tryz.func75, Tryz.ntmps75
 go_wp2_with ((with_reducible refine ag 2 10 ?_); refine aG rfl 26 (.tmp 2) (.tmp 10) rfl rfl w.heap.size (ay (List.replicate 32 0)) rfl (congrArg Value.agg XH) 26 (ay (List.replicate 32 0)) ((ax.new w 26 (ay (List.replicate 32 0))).alloc _) (xO _ Af) rfl (dK _) ?_; intro w3 o3 b3)
 exact bodyPost_ret (iq rfl _ _ w.heap.size 26 _ (0, 0) _ rfl b3 Tryz.underlying26 rfl (xO _ Af)) rfl ⟨rfl, (((Below.refl _ _).alloc (Nat.le_refl _) _).alloc (by simp) _).trans (o3.below (by simp))⟩
theorem Pb (s : ByteArray) (h : 32 ≤ s.size) (hs : s.size ≤ 1000000) (w : World) :
 Calls Tryz.prog 75 #[.string s] w fun e w' => e = .returned (zL (vL s.data.toList)) ∧ Below w.heap.size w w' := by
 rw [show vL s.data.toList = (s.data.toList.take 32, s.data.toList.drop 32, 0) by unfold vL; rw [if_neg (by rw [eu]; omega)]]
 have hd : decide ((s.size : Int) < 32) = false := by simp; omega
 have hsl : ∀ W, (Instr.slice 9 (.string s) (some (.int .i64 32)) none none).run Tryz.prog W = .ok (.string ⟨(s.data.toList.drop 32).toArray⟩) W := fun W => by
  rw [run_slice_string_from_if W 9 s .i64 _ Tryz.underlying9, if_pos (by omega), ← uT]; rfl
 have hl : (s.data.toList.take 32).length = 32 := by rw [List.length_take, eu]; omega
 have HL := qh hl
 clear hl
 obtain ⟨l, hl⟩ : ∃ l, s.data.toList.take 32 = l := ⟨_, rfl⟩
 obtain ⟨r, hr⟩ : ∃ r, s.data.toList.drop 32 = r := ⟨_, rfl⟩
 rw [hl] at HL
 rw [hr] at hsl
 rw [hl, hr]
 have QK := qh hl
 clear hr hl
 have hc : ∀ (w2 : World) (l2 : List UInt8), ax w2 (w.heap.size + 1) 26 (ay (s.data.toList.take 32)) → ax w2 (w.heap.size + 1) 26 (ay l) := fun w2 _ hb => by rw [QK.out] at hb; exact hb
 go_enter Tryz.func75, Tryz.ntmps75
 go_wp2_with ((with_reducible refine TQ ?_); refine ve rfl (.tmp 11) (.tmp 12) 84 9 rfl 5 (w.heap.size + 1) 32 s (List.replicate 32 0) 26 Tryz.underlying84 (by kernel_rfl) (bg (w := w.alloc (.cells (ay (List.replicate 32 0)) 26)) 26 (ay (List.replicate 32 0)) (by simp)) Af h rfl rfl ?_; intro w3 o3 b3)
 have K1 := hc _ [] b3
 have K0 : ax w3 w.heap.size 26 (ay (List.replicate 32 0)) := o3.blk ((ax.new w 26 (ay (List.replicate 32 0))).alloc _) (by simp)
 have B0 : Below w.heap.size w w3 := (((Below.refl _ _).alloc (Nat.le_refl _) _).alloc (by simp) _).trans (o3.below (by simp))
 clear b3 o3 hc hd
 refine wp_region_held_drew (S := fun w' => ax w' (w.heap.size + 1) 26 (ay l) ∧ (∃ cs : Array Value, cs.size = 32 ∧ ax w' w.heap.size 26 cs) ∧ Below w.heap.size w w') (by kernel_rfl) ⟨K1.drew, ⟨_, by rw [aO, Af], K0.drew⟩, B0.drew⟩ ?_
 clear K0 K1 B0
 intro hS0
 refine wpAnyH_take (i := 0) (v := .agg (ay l)) rfl (by kernel_rfl) (by kernel_rfl) (by kernel_rfl) (fun _ _ _ h => h) (eU (by rfl) 26 (.tmp 5) rfl (w.heap.size + 1) rfl 26 (ay l) _ (fun _ h => h.1) Tryz.underlying26 rfl (xO _ HL.out)) hS0 ?_
 go_simp
 refine wpAnyH_take (i := 1) (v := .string s) rfl (by kernel_rfl) (by kernel_rfl) (by kernel_rfl) (fun _ _ _ h => h) (Or.inl ⟨by rfl, fun W _ => by go_simp; try with_reducible rfl⟩) hS0 ?_
 go_simp
 refine wpAnyH_take (i := 2) (v := .int .i64 32) rfl (by kernel_rfl) (by kernel_rfl) (by kernel_rfl) (fun _ _ _ h => h) (Or.inl ⟨by rfl, fun W _ => by go_simp; try with_reducible rfl⟩) hS0 ?_
 go_simp
 refine wpAnyH_take (i := 3) (v := .string ⟨r.toArray⟩) rfl (by kernel_rfl) (by kernel_rfl) (by kernel_rfl) (fun _ _ _ h => h) (Or.inl ⟨by rfl, fun W _ => by go_simp; try with_reducible rfl⟩) hS0 ?_
 go_simp
 obtain ⟨cs, hcs, WI⟩ := hS0.2.1
 refine rd 4 rfl (fun Kq hK => ?_)
 refine iD rfl 26 (.tmp 2) (.tmp 14) rfl rfl w.heap.size (ay l) rfl rfl 26 _ WI (xO _ HL.out) (by rw [aO, HL.out, hcs]) (dK _) ?_
 intro w4 o4 b4
 refine hK.out _ _ ⟨o4.blk hS0.1 (by simp), ⟨_, by rw [aO, HL.out], b4⟩, hS0.2.2.trans (o4.below (by simp))⟩ (fun hS1 => ?_)
 clear hK Kq hS0
 refine rd 5 rfl (fun Kq hK => ?_)
 go_simp
 refine hK.out _ _ hS1 (fun _ => ?_)
 clear hK Kq
 refine rd 6 rfl (fun Kq hK => ?_)
 go_simp
 refine hK.out _ _ hS1 (fun _ => ?_)
 clear hK Kq
 refine wpAnyH_done (by kernel_rfl) ?_ _
 go_wp2_with fail
 exact bodyPost_ret (iq rfl _ _ w.heap.size 26 _ (0, 0) _ rfl b4 Tryz.underlying26 rfl (xO _ HL.out)) rfl ⟨rfl, hS1.2.2⟩
theorem Fg (s : ByteArray) (hs : s.size ≤ 1000000) (w : World) :
 Calls Tryz.prog 75 #[.string s] w fun e w' => e = .returned (zL (vL s.data.toList)) ∧ Below w.heap.size w w' := by
 by_cases h : s.size < 32
 ·exact Kv s h w
 ·exact Pb s (by omega) hs w
theorem Lu (l : List UInt8) (hl : l.length = 32) (w : World) :
 Calls Tryz.prog 45 #[.agg (ay l)] w fun e w' => e = .returned (.string ⟨l.toArray⟩) ∧ Below w.heap.size w w' := by
 have UI := Fe (ax.new w 26 (ay l)) hl
 clear hl
 go_enter Tryz.func45, Tryz.ntmps45
 go_wp2
 go_ret
 exact ⟨rfl, (Below.refl _ _).alloc (Nat.le_refl _) _⟩
end
section
open Go.RowKit
end
section
open Go.RowKit
end
section
open Go.RowKit
theorem vI (n m : Nat) (rest : List UInt8) (hn : n < 2 ^ (8 * m)) : fo (bD n m ++ rest) m = if pq n < m then (0, [], 31) else (n, rest, 0) := by
 have hl := bQ n m
 unfold fo
 rw [if_neg (by rw [List.length_append]; omega), List.take_append_of_le_length (by omega), List.take_of_length_le (by omega), List.drop_append_of_le_length (by omega), List.drop_of_length_le (by omega), AU, Nat.mod_eq_of_lt hn]
 rfl
theorem Ah (n : Nat) (rest : List UInt8) (hn : n < 2 ^ 64) : fH (cmpL n ++ rest) = (n, rest, 0) := by
 by_cases h1 : n < 253
 ·rw [show cmpL n = [UInt8.ofNat n] by simp [cmpL, h1, bD, su]]
  have hb : (UInt8.ofNat n).toNat = n := by rw [UInt8.toNat_ofNat']; omega
  simp [fH, hb, h1]
 by_cases h2 : n ≤ 65535
 ·rw [show cmpL n = 253 :: bD n 2 by simp [cmpL, h1, h2], List.cons_append, iE 253 _ (by decide), show eG 253 = 2 from rfl, vI n 2 rest (by omega), if_neg (by simp [pq, h1, h2])]
 by_cases h3 : n ≤ 4294967295
 ·rw [show cmpL n = 254 :: bD n 4 by simp [cmpL, h1, h2, h3], List.cons_append, iE 254 _ (by decide), show eG 254 = 4 from rfl, vI n 4 rest (by omega), if_neg (by simp [pq, h1, h2, h3])]
 rw [show cmpL n = 255 :: bD n 8 by simp [cmpL, h1, h2, h3], List.cons_append, iE 255 _ (by decide), show eG 255 = 8 from rfl, vI n 8 rest (by omega), if_neg (by simp [pq, h1, h2, h3])]
theorem Le (b : UInt8) (n : Nat) (hb : ¬ b.toNat < 253) (hn : n < 2 ^ (8 * eG b)) (hw : ¬ pq n < eG b) : cmpL n = b :: bD n (eG b) := by
 have hb2 := b.toNat_lt
 have h3 : b = 253 ∨ b = 254 ∨ b = 255 := by
  have : b.toNat = 253 ∨ b.toNat = 254 ∨ b.toNat = 255 := by omega
  rcases this with e | e | e
  ·exact .inl (UInt8.toNat_inj.mp e)
  ·exact .inr (.inl (UInt8.toNat_inj.mp e))
  ·exact .inr (.inr (UInt8.toNat_inj.mp e))
 unfold pq at hw
 rcases h3 with rfl | rfl | rfl
 ·rw [show eG 253 = 2 from rfl] at hn hw ⊢
  by_cases h1 : n < 253
  ·simp [h1] at hw
  simp [cmpL, h1, show n ≤ 65535 by omega]
 ·rw [show eG 254 = 4 from rfl] at hn hw ⊢
  by_cases h1 : n < 253
  ·simp [h1] at hw
  by_cases h2 : n ≤ 65535
  ·simp [h1, h2] at hw
  simp [cmpL, h1, h2, show n ≤ 4294967295 by omega]
 ·rw [show eG 255 = 8 from rfl] at hn hw ⊢
  by_cases h1 : n < 253
  ·simp [h1] at hw
  by_cases h2 : n ≤ 65535
  ·simp [h1, h2] at hw
  by_cases h4 : n ≤ 4294967295
  ·simp [h1, h2, h4] at hw
  simp [cmpL, h1, h2, h4]
theorem mG (l : List UInt8) : (∃ n r, fH l = (n, r, 0) ∧ cmpL n ++ r = l ∧ n < 2 ^ 64) ∨ fH l = (0, [], 30) ∨ fH l = (0, [], 31) := by
 cases l with
 | nil => exact .inr (.inl rfl)
 | cons b t =>
  by_cases hb : b.toNat < 253
  ·refine .inl ⟨b.toNat, t, by simp [fH, hb], ?_, by omega⟩
   simp [cmpL, hb, bD, su]
  ·rw [iE b t hb]
   unfold fo
   by_cases h1 : t.length < eG b
   ·exact .inr (.inl (by rw [if_pos h1]))
   by_cases h2 : pq (bO (t.take (eG b))) < eG b
   ·exact .inr (.inr (by rw [if_neg h1, if_pos h2]))
   refine .inl ⟨bO (t.take (eG b)), t.drop (eG b), by rw [if_neg h1, if_neg h2], ?_, ?_⟩
   ·rw [Le b _ hb (qA _ _) h2]
    have hl : (t.take (eG b)).length = eG b := by rw [List.length_take]; omega
    have := Am (t.take (eG b))
    rw [hl] at this
    rw [this, List.cons_append, List.take_append_drop]
   ·refine Nat.lt_of_lt_of_le (qA t (eG b)) (Nat.pow_le_pow_right (by omega) ?_)
    unfold eG; split <;> (try split) <;> omega
theorem Ag (n i : Nat) (hi : i < (cmpL n).length) : fH ((cmpL n).take i) = (0, [], 30) := by
 cases i with
 | zero => rfl
 | succ i =>
  by_cases h1 : n < 253
  ·rw [zg, if_pos h1] at hi; omega
  have key : ∀ (b : UInt8) (m : Nat), ¬ b.toNat < 253 → eG b = m → cmpL n = b :: bD n m → fH ((cmpL n).take (i + 1)) = (0, [], 30) := by
   intro b m hb hm hc
   rw [hc] at hi ⊢
   rw [List.length_cons, bQ] at hi
   rw [List.take_succ_cons, iE b _ hb, hm]
   unfold fo
   rw [if_pos (by rw [List.length_take, bQ]; omega)]
  by_cases h2 : n ≤ 65535
  ·exact key 253 2 (by decide) rfl (by simp [cmpL, h1, h2])
  by_cases h3 : n ≤ 4294967295
  ·exact key 254 4 (by decide) rfl (by simp [cmpL, h1, h2, h3])
  ·exact key 255 8 (by decide) rfl (by simp [cmpL, h1, h2, h3])
end
section
open Go.Shelf Go.RowKit
def Yu : Nat → Nat
  | 165 => 55
  | 241 => 101
  | 167 => 57
  | 166 => 56
  | 169 => 48
  | 240 => 100
  | 276 => 160
  | 277 => 161
  | n => n
def Yt : Nat → Nat
  | 0 => 0 | 3 => 3 | 4 => 4 | 5 => 5 | 9 => 9 | 20 => 20 | 37 => 84 | 70 => 95 | 72 => 97 | 75 => 118 | 80 => 105
  | 127 => 152
  | 164 => 244 | n => n
def Qk : Go.Shelf.Ren := ⟨Yu, Yt, fun n => n⟩
theorem SY : Go.Proofs.Lays.n167 Tryz.prog Qk := {
 mixed := by kernel_rfl
 f167 := Tryz.func57.trans (congrArg some (by kernel_rfl))
 f240 := Tryz.func100.trans (congrArg some (by kernel_rfl))
 f276 := Tryz.func160.trans (congrArg some (by kernel_rfl))
 t0 := Tryz.underlying0
 a0 := Tryz.isAgg0
 z0 := Tryz.sizeOf0
 v0 := Tryz.zeroValue0
 t4 := Tryz.underlying4
 a4 := Tryz.isAgg4
 z4 := Tryz.sizeOf4
 v4 := Tryz.zeroValue4
 t5 := Tryz.underlying5
 a5 := Tryz.isAgg5
 z5 := Tryz.sizeOf5
 v5 := Tryz.zeroValue5
 t9 := Tryz.underlying9
 a9 := Tryz.isAgg9
 z9 := Tryz.sizeOf9
 v9 := Tryz.zeroValue9
 t20 := Tryz.underlying20
 a20 := Tryz.isAgg20
 z20 := Tryz.sizeOf20
 v20 := Tryz.zeroValue20
 t37 := Tryz.underlying84
 a37 := Tryz.isAgg84
 z37 := Tryz.sizeOf84
 v37 := Tryz.zeroValue84
 t70 := Tryz.underlying95
 a70 := Tryz.isAgg95
 z70 := Tryz.sizeOf95
 v70 := Tryz.zeroValue95
 t72 := Tryz.underlying97
 a72 := Tryz.isAgg97
 z72 := Tryz.sizeOf97
 v72 := Tryz.zeroValue97
 t75 := Tryz.underlying118
 a75 := Tryz.isAgg118
 z75 := Tryz.sizeOf118
 v75 := Tryz.zeroValue118
 t164 := Tryz.underlying244
 a164 := Tryz.isAgg244
 z164 := Tryz.sizeOf244
 v164 := Tryz.zeroValue244 }
theorem IU : Go.Proofs.Lays.n166 Tryz.prog Qk := {
 mixed := by kernel_rfl
 f166 := Tryz.func56.trans (congrArg some (by kernel_rfl))
 f240 := Tryz.func100.trans (congrArg some (by kernel_rfl))
 f276 := Tryz.func160.trans (congrArg some (by kernel_rfl))
 t0 := Tryz.underlying0
 a0 := Tryz.isAgg0
 z0 := Tryz.sizeOf0
 v0 := Tryz.zeroValue0
 t3 := Tryz.underlying3
 a3 := Tryz.isAgg3
 z3 := Tryz.sizeOf3
 v3 := Tryz.zeroValue3
 t4 := Tryz.underlying4
 a4 := Tryz.isAgg4
 z4 := Tryz.sizeOf4
 v4 := Tryz.zeroValue4
 t9 := Tryz.underlying9
 a9 := Tryz.isAgg9
 z9 := Tryz.sizeOf9
 v9 := Tryz.zeroValue9
 t20 := Tryz.underlying20
 a20 := Tryz.isAgg20
 z20 := Tryz.sizeOf20
 v20 := Tryz.zeroValue20
 t37 := Tryz.underlying84
 a37 := Tryz.isAgg84
 z37 := Tryz.sizeOf84
 v37 := Tryz.zeroValue84
 t70 := Tryz.underlying95
 a70 := Tryz.isAgg95
 z70 := Tryz.sizeOf95
 v70 := Tryz.zeroValue95
 t72 := Tryz.underlying97
 a72 := Tryz.isAgg97
 z72 := Tryz.sizeOf97
 v72 := Tryz.zeroValue97
 t75 := Tryz.underlying118
 a75 := Tryz.isAgg118
 z75 := Tryz.sizeOf118
 v75 := Tryz.zeroValue118
 t164 := Tryz.underlying244
 a164 := Tryz.isAgg244
 z164 := Tryz.sizeOf244
 v164 := Tryz.zeroValue244 }
theorem IQ : Go.Proofs.Lays.n169 Tryz.prog Qk := {
 mixed := by kernel_rfl
 f169 := Tryz.func48.trans (congrArg some (by kernel_rfl))
 t0 := Tryz.underlying0
 a0 := Tryz.isAgg0
 z0 := Tryz.sizeOf0
 v0 := Tryz.zeroValue0
 t3 := Tryz.underlying3
 a3 := Tryz.isAgg3
 z3 := Tryz.sizeOf3
 v3 := Tryz.zeroValue3
 t9 := Tryz.underlying9
 a9 := Tryz.isAgg9
 z9 := Tryz.sizeOf9
 v9 := Tryz.zeroValue9
 t37 := Tryz.underlying84
 a37 := Tryz.isAgg84
 z37 := Tryz.sizeOf84
 v37 := Tryz.zeroValue84
 t70 := Tryz.underlying95
 a70 := Tryz.isAgg95
 z70 := Tryz.sizeOf95
 v70 := Tryz.zeroValue95
 t72 := Tryz.underlying97
 a72 := Tryz.isAgg97
 z72 := Tryz.sizeOf97
 v72 := Tryz.zeroValue97
 t127 := Tryz.underlying152
 a127 := Tryz.isAgg152
 z127 := Tryz.sizeOf152
 v127 := Tryz.zeroValue152 }
theorem S9 : Go.Proofs.Lays.n165 Tryz.prog Qk := {
 mixed := by kernel_rfl
 f165 := Tryz.func55.trans (congrArg some (by kernel_rfl))
 f240 := Tryz.func100.trans (congrArg some (by kernel_rfl))
 f241 := Tryz.func101.trans (congrArg some (by kernel_rfl))
 f276 := Tryz.func160.trans (congrArg some (by kernel_rfl))
 f277 := Tryz.func161.trans (congrArg some (by kernel_rfl))
 t0 := Tryz.underlying0
 a0 := Tryz.isAgg0
 z0 := Tryz.sizeOf0
 v0 := Tryz.zeroValue0
 t3 := Tryz.underlying3
 a3 := Tryz.isAgg3
 z3 := Tryz.sizeOf3
 v3 := Tryz.zeroValue3
 t4 := Tryz.underlying4
 a4 := Tryz.isAgg4
 z4 := Tryz.sizeOf4
 v4 := Tryz.zeroValue4
 t9 := Tryz.underlying9
 a9 := Tryz.isAgg9
 z9 := Tryz.sizeOf9
 v9 := Tryz.zeroValue9
 t20 := Tryz.underlying20
 a20 := Tryz.isAgg20
 z20 := Tryz.sizeOf20
 v20 := Tryz.zeroValue20
 t37 := Tryz.underlying84
 a37 := Tryz.isAgg84
 z37 := Tryz.sizeOf84
 v37 := Tryz.zeroValue84
 t70 := Tryz.underlying95
 a70 := Tryz.isAgg95
 z70 := Tryz.sizeOf95
 v70 := Tryz.zeroValue95
 t72 := Tryz.underlying97
 a72 := Tryz.isAgg97
 z72 := Tryz.sizeOf97
 v72 := Tryz.zeroValue97
 t164 := Tryz.underlying244
 a164 := Tryz.isAgg244
 z164 := Tryz.sizeOf244
 v164 := Tryz.zeroValue244 }
theorem vZ : Builder.Extra Tryz.prog Qk := {
 sizeBuilder := by kernel_rfl
 liesBuilder := by kernel_rfl
 t5 := Tryz.underlying5
 a5 := Tryz.isAgg5
 z5 := Tryz.sizeOf5
 v5 := Tryz.zeroValue5
 infoByte := by kernel_rfl
 cellsByte := by kernel_rfl
 sizeByte := by kernel_rfl
 neB5 := by decide }
theorem ny (B b : Nat) (bs : List Value) (c : Int) (w : World) (h : Lib.IsBuilder 97 5 B b bs w) (hlen : bs.length + 1 ≤ 140737488355328) (hBw : B ≤ w.heap.size) :
 Calls Tryz.prog 57 #[.pointer (some ⟨b, 0, none⟩), .int .u8 c] w fun e w' => e = .returned .nilIface ∧ (Lib.BuilderAt 97 5 B b (.pointer (some ⟨b, 0, none⟩)) (bs ++ [.int .u8 c]) w' ∧ Below B w w') := Any.Builder_WriteByte SY vZ B b bs c w h hlen hBw
theorem jc (B b : Nat) (bs : List Value) (s : ByteArray) (w : World) (h : Lib.IsBuilder 97 5 B b bs w) (hlen : bs.length + s.size ≤ 140737488355328) (hBw : B ≤ w.heap.size) :
 Calls Tryz.prog 56 #[.pointer (some ⟨b, 0, none⟩), .string s] w fun e w' => e = .returned (.tuple #[.int .i64 s.size, .nilIface]) ∧ (Lib.BuilderAt 97 5 B b (.pointer (some ⟨b, 0, none⟩)) (bs ++ Lib.strCells s) w' ∧ Below B w w') := Any.Builder_WriteString IU vZ B b bs s w h hlen hBw
theorem oO (B b : Nat) (l : List UInt8) (w : World) (h : Lib.IsBuilder 97 5 B b (Lib.byteCells l) w) (hBw : B ≤ w.heap.size) :
 Calls Tryz.prog 48 #[.pointer (some ⟨b, 0, none⟩)] w fun e w' => e = .returned (.string ⟨l.toArray⟩) ∧ Below B w w' := Any.Builder_String_any IQ vZ B b l w h hBw
theorem Qp (B b n : Nat) (w : World) (hB : B ≤ b) (hbk : w.heap[b]? = some (.cells #[.pointer none, .slice none 0 0] 97 (0, 0))) (hBw : B ≤ w.heap.size) (hn : n ≤ 281474976710656) :
 Calls Tryz.prog 55 #[.pointer (some ⟨b, 0, none⟩), .int .i64 n] w fun e w' => e = .returned (.tuple #[]) ∧ (Lib.BuilderAt 97 5 B b (.pointer (some ⟨b, 0, none⟩)) [] w' ∧ Below B w w') := Any.Builder_Grow_fresh S9 vZ B b n w hB hbk hBw hn
end
end Go.Proofs.YtnpmpeoojncjhaaGreatDoor
