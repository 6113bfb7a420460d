/- GenA: Mem, Only, App, App2, Bytes, Conv, CopyT, Guard, Held, KeyArg, KeyEq, KeyP, RowK, RowArg, KeysArg, Make, Quiet, Quiet2, Quiet3, Quiet4, RowK2, RowK3, RowOwn, RowsArg, SRow, Str, StructArg, StructEq, TxBlk, BoolsArg, in one text. -/
import Derived.WalkKit
import Derived.WalkSpells
import Derived.Below
import Derived.Laws.OwnMore
import Derived.Deep.AppendLies
import Derived.Deep.Draws
import Derived.Laws.Rows
import Derived.Deep.QuietTactic
import Derived.BigQuiet
import Derived.Deep.OwnRows
import Derived.OwnWalk
import Derived.Laws.AppendOwn
import Derived.Maps.AppendAt
import Derived.RegionTactic
import Derived.ChangeSame
import Derived.Lib.Hide
import Derived.Great.BuildSlice
import Derived.Test.YtimhophelecmjaaProg
import Derived.Laws.IdiomStrings
import Derived.Lib.UnsafeStr
import Derived.Laws.CopyRow
import Derived.Deep.RegionHeld3
import Derived.OpenShut
import Derived.ChangeKeysEq
import Derived.Laws.StructEq
import Derived.Lib.Bytealg
import Derived.Shelf.SlSortCmp.Insertion
import Derived.Sort.LotA
import Derived.Laws.CopyOwn
import Derived.Shelf.SlicesQ.Load
import Derived.Carry
import Derived.ChangeOld
import Derived.ChangeSlices
import Derived.Deep.Slices
import Derived.ArgAppend
import Derived.Lib.SmallJoins
/- Words for memory, over any program: a slice that reads as a list, a block that is known whole, frames, and the row's last step. After the guide's pages of small lemmas, to be imported by the walks. -/
namespace Go.Proofs.Ytimhophelecmjaa
open Go.RowKit Go.WideShapes Go.ChangeShapes

theorem block_of_add (a : Addr) (n : Nat) : (a.add n).block = a.block := by unfold Addr.add; split <;> rfl
theorem add_of_add (a : Addr) (i j : Nat) : (a.add i).add j = a.add (i + j) := by
  unfold Addr.add
  by_cases hi : i = 0 <;> by_cases hj : j = 0 <;> simp [hi, hj, Nat.add_assoc]

def Reads (w : World) (B size : Nat) (A : Option Addr) (n : Nat) (xs : List Value) : Prop :=
  xs.length = n * size ∧ (0 < n → ∃ ad, A = some ad ∧ ad.block < B ∧ ∀ j u, xs[j]? = some u → w.cell? (ad.add j) = some u)

section
variable {w w' : World} {B B' size n : Nat} {A : Option Addr} {xs : List Value}
theorem Reads.none_ : Reads w B size A 0 [] := ⟨by simp, fun h => absurd h (by omega)⟩
theorem Reads.at_ {k : Nat} (h : Reads w B 1 A n xs) (hk : k < n) : ∃ ad u, A = some ad ∧ ad.block < B ∧ xs[k]? = some u ∧ w.cell? (ad.add k) = some u := by
  obtain ⟨ad, e, hb, hc⟩ := h.2 (by omega)
  have hl : k < xs.length := by have := h.1; omega
  exact ⟨ad, xs[k], e, hb, List.getElem?_eq_getElem hl, hc k _ (List.getElem?_eq_getElem hl)⟩
theorem Reads.keep (h : Reads w B size A n xs) (hk : ∀ p : Addr, p.block < B → w'.cell? p = w.cell? p) : Reads w' B size A n xs :=
  ⟨h.1, fun hn => by
    obtain ⟨ad, e, hb, hc⟩ := h.2 hn
    exact ⟨ad, e, hb, fun j u hu => (hk _ (by rw [block_of_add]; exact hb)).trans (hc j u hu)⟩⟩
theorem Reads.more (h : Reads w B size A n xs) (hB : B ≤ B') : Reads w B' size A n xs :=
  ⟨h.1, fun hn => by
    obtain ⟨ad, e, hb, hc⟩ := h.2 hn
    exact ⟨ad, e, by omega, hc⟩⟩
theorem Reads.below (h : Reads w B size A n xs) (hb : Below B w w') : Reads w' B size A n xs := h.keep fun _ hp => hb.cell hp
theorem Reads.drew (h : Reads w B size A n xs) : Reads w.drew B size A n xs := h
theorem Reads.drewN (h : Reads w B size A n xs) (k : Nat) : Reads (w.drewN k) B size A n xs := h
theorem Reads.alloc (h : Reads w B size A n xs) (hB : B ≤ w.heap.size) (o : Obj) : Reads (w.alloc o) B size A n xs := h.keep fun p hp => World.cell?_alloc_lt w o p (by omega)
theorem Reads.setCell (h : Reads w B size A n xs) {p : Addr} (hB : B ≤ p.block) (u : Value) : Reads (w.setCell p u) B size A n xs :=
  h.keep fun q hq => World.cell?_setCell_other w p q u (fun e => by subst e; omega)
theorem Reads.grown (h : Reads w B size A n xs) {row : Option Nat} (hg : w.grownBy w' row) (hB : B ≤ w.heap.size) (hr : ∀ g, row = some g → B ≤ g) : Reads w' B size A n xs :=
  h.keep fun p hp => World.cell?_of_block (hg.block p.block (by omega) (fun e => by have := hr _ e.symm; omega))
theorem Reads.cut (h : Reads w B size A n xs) {k cap : Nat} (hk : k ≤ n) (hc : n ≤ cap) :
    Reads w B size (if cap = k then A else A.map (·.add (k * size))) (n - k) (xs.drop (k * size)) := by
  refine ⟨by rw [List.length_drop, h.1, Nat.sub_mul], fun hn => ?_⟩
  obtain ⟨ad, rfl, hb, hcell⟩ := h.2 (by omega)
  rw [if_neg (by omega)]
  refine ⟨ad.add (k * size), rfl, by rw [block_of_add]; exact hb, fun j u hu => ?_⟩
  rw [add_of_add]
  exact hcell _ u (by rw [← hu, List.getElem?_drop])
theorem Reads.of_own {base : Nat} {e : TypeId} {c : Nat} (h : w.ownsRow base e size (.slice A n c) n xs) : Reads w w.heap.size size A n xs := by
  refine ⟨h.1, fun hn => ?_⟩
  obtain ⟨g, cap, hv, _, hlt⟩ := h.form hn
  have hA : A = some ⟨g, 0, none⟩ := by injection hv
  subst hA
  exact ⟨_, rfl, hlt, h.cells (g := g) rfl⟩
end

def Blk (w : World) (g : Nat) (t : TypeId) (cs : Array Value) : Prop := w.heap[g]? = some (.cells cs t (0, 0))

section
variable {w w' : World} {g : Nat} {t : TypeId} {cs : Array Value}
theorem Blk.lt (h : Blk w g t cs) : g < w.heap.size := by
  rcases Nat.lt_or_ge g w.heap.size with hlt | hge
  · exact hlt
  · unfold Blk at h; rw [Array.getElem?_eq_none hge] at h; cases h
theorem Blk.cell (h : Blk w g t cs) (i : Nat) : w.cell? ⟨g, i, none⟩ = cs[i]? := cell_of_row w g i cs t (0, 0) h
theorem Blk.frozen (h : Blk w g t cs) (i : Nat) : w.frozen? ⟨g, i, none⟩ = false := by
  unfold Blk at h
  simp [World.frozen?, h]
theorem Blk.new (w : World) (t : TypeId) (cs : Array Value) : Blk (w.alloc (.cells cs t)) w.heap.size t cs := heap_alloc_new w _
theorem Blk.drew (h : Blk w g t cs) : Blk w.drew g t cs := h
theorem Blk.drewN (h : Blk w g t cs) (n : Nat) : Blk (w.drewN n) g t cs := h
theorem Blk.alloc (h : Blk w g t cs) (o : Obj) : Blk (w.alloc o) g t cs := (Below.heap_alloc w o g h.lt).trans h
theorem Blk.set_ (h : Blk w g t cs) (i : Nat) (u : Value) : Blk (w.setCell ⟨g, i, none⟩ u) g t (cs.setIfInBounds i u) := by
  unfold Blk at h ⊢
  simp [World.setCell, Array.getElem?_modify, h]
theorem Blk.far (h : Blk w g t cs) {p : Addr} (hp : g ≠ p.block) (u : Value) : Blk (w.setCell p u) g t cs := (Below.heap_setCell w p u g hp).trans h
theorem Blk.below {B : Nat} (h : Blk w g t cs) (hb : Below B w w') (hg : g < B) : Blk w' g t cs := (hb.block g hg).trans h
theorem Blk.grown {row : Option Nat} (h : Blk w g t cs) (hb : w.grownBy w' row) (hg : some g ≠ row) : Blk w' g t cs := (hb.block g h.lt hg).trans h
theorem Blk.ne_ {g' : Nat} {t' : TypeId} {cs' : Array Value} (h : Blk w g t cs) (h' : Blk w g' t' cs') (hne : t ≠ t') : g ≠ g' := by
  rintro rfl
  unfold Blk at h h'
  rw [h] at h'
  injection h' with h'
  injection h' with _ ht
  exact hne ht
theorem own_blk_ne {base : Nat} {e : TypeId} {size n : Nat} {v : Value} {xs : List Value} (h : w.ownsRow base e size v n xs) (hg : Blk w g t cs) (hne : e ≠ t) : v.ownBlock ≠ some g := by
  rcases h.2 with ⟨rfl, _⟩ | ⟨g', cap, cur, rfl, _, hh, _⟩
  · simp [Value.ownBlock]
  · intro he
    have : g' = g := by simpa [Value.ownBlock] using he
    subst this
    exact Blk.ne_ (t := e) hh hg hne rfl
end

section
variable {P : Program} (w : World)

theorem run_append_of_nil (base : Nat) (t ty e : TypeId) (i : TypeInfo) (size : Nat) (ht : P.underlying t = some (.slice e)) (hi : P.info? e = some i)
    (v : Value) (n : Nat) (xs : List Value) (hown : w.ownsRow base e size v n xs) (c : Nat) : (Builtin.append_ #[t, t] ty #[v, .slice none 0 c]).run P w = .ok v w := by
  rcases hown.2 with ⟨rfl, rfl⟩ | ⟨g, cap, cur, rfl, _, _, hnc, _⟩
  · simp [Builtin.append_, run_underlying ht, sizeOf, typeInfo, hi, Builtin.lenOf, Builtin.firstCells]
  · simp [Builtin.append_, run_underlying ht, sizeOf, typeInfo, hi, Builtin.lenOf, Builtin.firstCells, hnc, storeCells]

theorem run_append_any (base : Nat) (t ty e : TypeId) (i : TypeInfo) (z : Value) (size bytes : Nat) (ht : P.underlying t = some (.slice e)) (hi : P.info? e = some i) (hz : i.zero = some z)
    (hsize : i.size = size) (hby : i.bytes = bytes) (hzs : z.cells.size = size) (hsz : 0 < size)
    (v : Value) (n : Nat) (xs : List Value) (hown : w.ownsRow base e size v n xs)
    (B : Nat) (A : Option Addr) (m c : Nat) (news : List Value) (hr : Reads w B size A m news) (h1 : ∀ u ∈ news, u.oneCell' = true)
    (h63 : n + m ≤ maxLen) (hbytes : (n + m) * bytes ≤ 140737488355328) (hbase : base ≤ w.heap.size) :
    ∃ v' w', (Builtin.append_ #[t, t] ty #[v, .slice A m c]).run P w = .ok v' w' ∧ w'.ownsRow base e size v' (n + m) (xs ++ news) ∧ w.grownBy w' v.ownBlock ∧
      (v'.ownBlock = v.ownBlock ∨ v'.ownBlock = some w.heap.size) := by
  rcases A with _ | ad
  · have hm : m = 0 := by
      rcases Nat.eq_zero_or_pos m with h0 | h0
      · exact h0
      · obtain ⟨ad, h, _⟩ := hr.2 h0
        cases h
    subst hm
    have hn : news = [] := List.eq_nil_of_length_eq_zero (by simpa using hr.1)
    subst hn
    exact ⟨v, w, run_append_of_nil w base t ty e i size ht hi v n xs hown c, by simpa using hown, World.grownBy.refl w _, .inl rfl⟩
  · have hcells : ∀ j u, news[j]? = some u → w.cell? (ad.add j) = some u := by
      intro j u hu
      rcases Nat.eq_zero_or_pos m with h0 | h0
      · subst h0
        have hn : news = [] := List.eq_nil_of_length_eq_zero (by simpa using hr.1)
        subst hn
        simp at hu
      · obtain ⟨ad', h, _, hc⟩ := hr.2 h0
        injection h with h
        subst h
        exact hc j u hu
    obtain ⟨v', w', hrun, h2, h3, _, h5⟩ := run_append_own_at (P := P) w base t ty e i z size bytes ht hi hz hsize hby hzs hsz v n xs hown ad m c news hr.1 hcells h1 h63 hbytes hbase
    exact ⟨v', w', hrun, h2, h3, h5⟩

theorem wp_append_any {o : Oper} {a : Act} {K : Act → World → Prop} {Q : Exit → Act → World → Prop} (s x : Operand) (t : TypeId)
    (ho : o.op = .call { callee := .builtin .append, args := #[s, x], argTypes := #[t, t] })
    (base : Nat) (e : TypeId) (i : TypeInfo) (z : Value) (size bytes : Nat) (ht : P.underlying t = some (.slice e)) (hi : P.info? e = some i) (hz : i.zero = some z)
    (hsize : i.size = size) (hby : i.bytes = bytes) (hzs : z.cells.size = size) (hsz : 0 < size)
    (v : Value) (n : Nat) (xs : List Value) (hs : a.eval s = v) (hown : w.ownsRow base e size v n xs)
    (B : Nat) (A : Option Addr) (m c : Nat) (news : List Value) (hx : a.eval x = .slice A m c) (hr : Reads w B size A m news) (h1 : ∀ u ∈ news, u.oneCell' = true)
    (h63 : n + m ≤ maxLen) (hbytes : (n + m) * bytes ≤ 140737488355328) (hbase : base ≤ w.heap.size)
    (h : ∀ v' w', w'.ownsRow base e size v' (n + m) (xs ++ news) → w.grownBy w' v.ownBlock → (v'.ownBlock = v.ownBlock ∨ v'.ownBlock = some w.heap.size) → K (a.put o.dst v') w') : o.wp P a w K Q := by
  obtain ⟨v', w', hrun, h2, h3, h4⟩ := run_append_any (P := P) w base t o.type e i z size bytes ht hi hz hsize hby hzs hsz v n xs hown B A m c news hr h1 h63 hbytes hbase
  unfold Oper.wp execOp
  simp only [ho, resolve, invoke, builtin, Sem.run_bind, Sem.run_pure, Result.andThen_ok, List.map_toArray, List.map_cons, List.map_nil, hs, hx, hrun]
  exact h v' w' h2 h3 h4

theorem wpList_append_any {ops : Array Oper} {rest : List Oper} {o : Oper} {a : Act} {Q : Exit → Act → World → Prop} (hgd : o.guard = none) (s x : Operand) (t : TypeId)
    (ho : o.op = .call { callee := .builtin .append, args := #[s, x], argTypes := #[t, t] })
    (base : Nat) (e : TypeId) (i : TypeInfo) (z : Value) (size bytes : Nat) (ht : P.underlying t = some (.slice e)) (hi : P.info? e = some i) (hz : i.zero = some z)
    (hsize : i.size = size) (hby : i.bytes = bytes) (hzs : z.cells.size = size) (hsz : 0 < size)
    (v : Value) (n : Nat) (xs : List Value) (hs : a.eval s = v) (hown : w.ownsRow base e size v n xs)
    (B : Nat) (A : Option Addr) (m c : Nat) (news : List Value) (hx : a.eval x = .slice A m c) (hr : Reads w B size A m news) (h1 : ∀ u ∈ news, u.oneCell' = true)
    (h63 : n + m ≤ maxLen) (hbytes : (n + m) * bytes ≤ 140737488355328) (hbase : base ≤ w.heap.size)
    (h : ∀ v' w', w'.ownsRow base e size v' (n + m) (xs ++ news) → w.grownBy w' v.ownBlock → (v'.ownBlock = v.ownBlock ∨ v'.ownBlock = some w.heap.size) → wpList P ops Q rest (a.put o.dst v') w') : wpList P ops Q (o :: rest) a w :=
  wpList_plain hgd fun _ hK => wp_append_any w s x t ho base e i z size bytes ht hi hz hsize hby hzs hsz v n xs hs hown B A m c news hx hr h1 h63 hbytes hbase fun v' w' h2 h3 h4 => hK _ _ (h v' w' h2 h3 h4)

theorem step_append_any {ops : Array Oper} {o : Oper} {a : Act} {K : Act → World → Prop} {Q : Exit → Act → World → Prop} {E : Prop} (hgd : o.guard = none) (s x : Operand) (t : TypeId)
    (ho : o.op = .call { callee := .builtin .append, args := #[s, x], argTypes := #[t, t] })
    (base : Nat) (e : TypeId) (i : TypeInfo) (z : Value) (size bytes : Nat) (ht : P.underlying t = some (.slice e)) (hi : P.info? e = some i) (hz : i.zero = some z)
    (hsize : i.size = size) (hby : i.bytes = bytes) (hzs : z.cells.size = size) (hsz : 0 < size)
    (v : Value) (n : Nat) (xs : List Value) (hs : a.eval s = v) (hown : w.ownsRow base e size v n xs)
    (B : Nat) (A : Option Addr) (m c : Nat) (news : List Value) (hx : a.eval x = .slice A m c) (hr : Reads w B size A m news) (h1 : ∀ u ∈ news, u.oneCell' = true)
    (h63 : n + m ≤ maxLen) (hbytes : (n + m) * bytes ≤ 140737488355328) (hbase : base ≤ w.heap.size)
    (h : ∀ v' w', w'.ownsRow base e size v' (n + m) (xs ++ news) → w.grownBy w' v.ownBlock → (v'.ownBlock = v.ownBlock ∨ v'.ownBlock = some w.heap.size) → K (a.put o.dst v') w') :
    if Region.wanted o (yielded ops a.tmps) = true then Oper.wp P o a w K Q else E := by
  have hw : Region.wanted o (yielded ops a.tmps) = true := by simp [Region.wanted, hgd]
  rw [if_pos hw]
  exact wp_append_any w s x t ho base e i z size bytes ht hi hz hsize hby hzs hsz v n xs hs hown B A m c news hx hr h1 h63 hbytes hbase h
end

theorem quiet_add {P : Program} {f : FuncId} {args : Array Value} {w : World} {a n : Nat} {v : Value}
    (h : Calls P f args (w.drewN (a + n)) fun e w' => e = .returned v ∧ ∃ m, w' = (w.drewN (a + n)).drewN m) :
    Calls P f args (w.drewN (a + n)) fun e w'' => e = .returned v ∧ ∃ m, w'' = w.drewN (a + m) :=
  h.mono fun _ _ ⟨he, m, hm⟩ => ⟨he, n + m, by rw [hm, World.drewN_drewN, Nat.add_assoc]⟩
theorem quiet_add_same {P : Program} {f : FuncId} {args : Array Value} {w : World} {a n : Nat} {v : Value}
    (h : Calls P f args (w.drewN (a + n)) fun e w' => e = .returned v ∧ w' = w.drewN (a + n)) :
    Calls P f args (w.drewN (a + n)) fun e w'' => e = .returned v ∧ ∃ m, w'' = w.drewN (a + m) :=
  h.mono fun _ _ ⟨he, hm⟩ => ⟨he, n, hm⟩
theorem quiet_add_left {P : Program} {f : FuncId} {args : Array Value} {w : World} {a n : Nat} {v : Value}
    (h : Calls P f args (w.drewN (a + n)) fun e w' => e = .returned v ∧ w.drewN (a + n) = w') :
    Calls P f args (w.drewN (a + n)) fun e w'' => e = .returned v ∧ ∃ m, w'' = w.drewN (a + m) :=
  h.mono fun _ _ ⟨he, hm⟩ => ⟨he, n, hm.symm⟩
theorem quiet_left {P : Program} {f : FuncId} {args : Array Value} {w : World} {n : Nat} {v : Value}
    (h : Calls P f args (w.drewN n) fun e w' => e = .returned v ∧ w.drewN n = w') : Calls P f args (w.drewN n) fun e w'' => e = .returned v ∧ ∃ m, w'' = w.drewN m :=
  h.mono fun _ _ ⟨he, hm⟩ => ⟨he, n, hm.symm⟩

theorem results_tmp4 {fn : Func} {t u v x : Tmp} (h : fn.results = #[.tmp t, .tmp u, .tmp v, .tmp x]) (tmps : Array Value) (P : Program) (w : World) :
    (results fn tmps).run P w = .ok (.tuple #[tmps.getD t undef, tmps.getD u undef, tmps.getD v undef, tmps.getD x undef]) w := by simp [results, h]
theorem results_tmp5 {fn : Func} {t u v x y : Tmp} (h : fn.results = #[.tmp t, .tmp u, .tmp v, .tmp x, .tmp y]) (tmps : Array Value) (P : Program) (w : World) :
    (results fn tmps).run P w = .ok (.tuple #[tmps.getD t undef, tmps.getD u undef, tmps.getD v undef, tmps.getD x undef, tmps.getD y undef]) w := by simp [results, h]

theorem below_drewN {B : Nat} {a w : World} (h : Below B a w) (n : Nat) : Below B a (w.drewN n) := ⟨h.os, h.tape, h.output, h.size, h.block⟩
theorem rowIs_drewN {w : World} {b : Nat} {t : TypeId} {n : Nat} {f : Nat → Value} (h : w.rowIs b t n f) (k : Nat) : (w.drewN k).rowIs b t n f := h
theorem grown_trans {a b c : World} (h : Grown a b) (k : Grown b c) : Grown a c :=
  ⟨World.keptBut_trans h.1 k.1, fun x => (k.2.1 x).trans (h.2.1 x), Nat.le_trans h.2.2 k.2.2⟩

theorem only_drewN {a w : World} {row : Option Nat} (h : a.grownBy w row) (n : Nat) : a.grownBy (w.drewN n) row := ⟨h.os, h.tape, h.output, h.size, h.block⟩
theorem only_drew {a w : World} {row : Option Nat} (h : a.grownBy w row) : a.grownBy w.drew row := ⟨h.os, h.tape, h.output, h.size, h.block⟩
theorem only_alloc {a w : World} {row : Option Nat} (h : a.grownBy w row) (o : Obj) : a.grownBy (w.alloc o) row :=
  ⟨h.os, h.tape, h.output, Nat.le_trans h.size (by simp), fun i hi hne => (Below.heap_alloc w o i (Nat.lt_of_lt_of_le hi h.size)).trans (h.block i hi hne)⟩
theorem only_setCell {a w : World} {g : Nat} (h : a.grownBy w (some g)) {p : Addr} (hp : p.block = g ∨ a.heap.size ≤ p.block) (u : Value) : a.grownBy (w.setCell p u) (some g) :=
  ⟨h.os, h.tape, h.output, by simpa [World.setCell] using h.size, fun i hi hne => (Below.heap_setCell w p u i (by
    rintro rfl
    rcases hp with hp | hp
    · exact hne (by rw [hp])
    · omega)).trans (h.block i hi hne)⟩
theorem only_of_below {a w : World} (h : Below a.heap.size a w) (row : Option Nat) : a.grownBy w row := ⟨h.os, h.tape, h.output, h.size, fun i hi _ => h.block i hi⟩

theorem run_make_rowN {P : Program} (t e : TypeId) (i : TypeInfo) (z : Value) (ht : P.underlying t = some (.slice e)) (hi : P.info? e = some i) (hz : i.zero = some z)
    (kl kc : IntKind) (n c : Nat) (hnc : n ≤ c) (hbytes : i.bytes * c ≤ 281474976710656) (h63 : c ≤ 9223372036854775807) (w : World) :
    (Instr.makeSlice t (.int kl (n : Int)) (.int kc (c : Int))).run P w = .ok (.slice (some ⟨w.heap.size, 0, none⟩) n c) (w.alloc (.cells (madeCells z.cells (c * i.size)) e)) := by
  have hb : (i.bytes : Int) * (c : Int) ≤ 281474976710656 := by
    have h : ((i.bytes * c : Nat) : Int) ≤ 281474976710656 := by omega
    rwa [Int.natCast_mul] at h
  have hr := run_make (P := P) w t e i z ht hi hz kl kc n c (by omega) (by omega) hb (by omega)
  simp only [Int.toNat_natCast] at hr
  exact hr
theorem run_makeMap_hint {P : Program} (t k e : TypeId) (kd : IntKind) (n : Int) (ht : P.underlying t = some (.map k e)) (w : World) :
    (Instr.makeMap t (some (.int kd n))).run P w = .ok (.map (some w.heap.size)) (w.alloc (.map #[] 0)) := by
  simp [Instr.makeMap, run_underlying ht]; rfl

section
variable {H : Type} {enc : TypeId × Value → H} {P : Program}
theorem post_of_below {f : Func} {s : ChangeSpec} {apart fresh handsOn again : Bool} {W W' : World} {args : Array Value} {v : Value} {ds gs : List (DataW H)} {before pa pv : List MemPlace}
    (hW : DataW.Whole enc P f.params.toList s.vars apart W args.toList ds gs before)
    (hres : ∀ (b : Nat) (sp : Nat → Bool) (hd : Bool), DataW.TrodAll enc P W' b sp hd f.resultTypes.toList (v.resultList f.resultTypes.size) (s.fn H (ds ++ gs)).results [])
    (hargs : ∀ sp : Nat → Bool, (∀ p ∈ before, sp p.block = true) → DataW.TrodAll enc P W' 0 sp true f.params.toList args.toList (s.fn H (ds ++ gs)).args pa)
    (hvars : ∀ sp : Nat → Bool, (∀ p ∈ before, sp p.block = true) → DataW.TrodVars enc P W' sp s.vars (s.fn H (ds ++ gs)).vars pv)
    (hps : before = pa ++ pv) (hb : Below W.heap.size W W')
    (hok : ∀ (j : Nat) (t : TypeId) (r : Value), f.resultTypes[j]? = some t → (v.resultList f.resultTypes.size)[j]? = some r → Value.okWide P W' .any 0 t r) :
    s.post enc P f apart fresh handsOn again W args v W' := by
  have hlt : ∀ p ∈ before, p.block < W.heap.size := fun p hp => hW.lt p hp
  have hold : ∀ p ∈ before, (fun b => decide (b < W.heap.size)) p.block = true := fun p hp => by simpa using hlt p hp
  refine ⟨ds, gs, before, [], pa, pv, hW, hres _ _ _, hargs _ hold, hvars _ hold, World.keptBut_mono (fun p hp => ⟨hp, ?_⟩) (hb.frame (· ∈ before)), fun _ => ?_⟩
  · rw [hps, List.mem_append] at hp
    exact Or.inr hp
  · obtain ⟨_, _, _, _, _, hz, hn⟩ := hW
    refine ⟨hok, _, _, ([] ++ pa) ++ pv, ⟨[] ++ pa, pv, trodAll_append (hargs _ (fun _ _ => rfl)) (hres _ _ _), hvars _ (fun _ _ => rfl), rfl, ?_, ?_⟩, ?_⟩
    · intro b off hp
      have hin : MemPlace.cell b off ∈ before := by rw [hps]; simpa using hp
      rw [hb.frozen (hlt _ hin)]
      exact hz b off hin
    · intro ha
      have := hn ha
      rw [hps] at this
      simpa using this
    · intro p hp _
      rw [hps]
      simpa using hp
end

end Go.Proofs.Ytimhophelecmjaa
/- 'Only L w w'': of the blocks of w those in L alone may have turned; none is new. -/
namespace Go.Proofs.Ytimhophelecmjaa
open Go.RowKit
structure Only (L : List Nat) (w w' : World) : Prop where
  os : w'.os = w.os
  tape : w'.tape = w.tape
  output : w'.output = w.output
  size : w'.heap.size = w.heap.size
  block : ∀ k, k ∉ L → w'.heap[k]? = w.heap[k]?
section
variable {L : List Nat} {a w w' : World}
theorem Only.refl (L : List Nat) (w : World) : Only L w w := ⟨rfl, rfl, rfl, rfl, fun _ _ => rfl⟩
theorem Only.trans {b c : World} (h : Only L a b) (k : Only L b c) : Only L a c :=
  ⟨k.os.trans h.os, k.tape.trans h.tape, k.output.trans h.output, k.size.trans h.size, fun i hi => (k.block i hi).trans (h.block i hi)⟩
theorem Only.drew (h : Only L a w) : Only L a w.drew := ⟨h.os, h.tape, h.output, h.size, h.block⟩
theorem Only.drewN (h : Only L a w) (n : Nat) : Only L a (w.drewN n) := ⟨h.os, h.tape, h.output, h.size, h.block⟩
theorem Only.setCell (h : Only L a w) {p : Addr} (hp : p.block ∈ L) (u : Value) : Only L a (w.setCell p u) :=
  ⟨h.os, h.tape, h.output, by simpa [World.setCell] using h.size, fun k hk => (Below.heap_setCell w p u k (fun e => hk (e ▸ hp))).trans (h.block k hk)⟩
theorem Only.blk (h : Only L w w') {g : Nat} {t : TypeId} {cs : Array Value} (hb : Blk w g t cs) (hg : g ∉ L) : Blk w' g t cs := (h.block g hg).trans hb
theorem Only.below {B : Nat} (h : Only L w w') (hL : ∀ k ∈ L, B ≤ k) : Below B w w' :=
  ⟨h.os, h.tape, h.output, Nat.le_of_eq h.size.symm, fun k hk => h.block k (fun hm => by have := hL k hm; omega)⟩
theorem Only.cell (h : Only L w w') {p : Addr} (hp : p.block ∉ L) : w'.cell? p = w.cell? p := World.cell?_of_block (w := w) (h.block p.block hp)
end
theorem blk_new {w : World} {g : Nat} (t : TypeId) (cs : Array Value) (h : g = w.heap.size) : Blk (w.alloc (.cells cs t)) g t cs := h ▸ Blk.new w t cs
theorem Only.mono {L L' : List Nat} {w w' : World} (h : Only L w w') (hL : ∀ k ∈ L, k ∈ L') : Only L' w w' :=
  ⟨h.os, h.tape, h.output, h.size, fun k hk => h.block k (fun hm => hk (hL k hm))⟩
theorem only_setRow {w : World} {g : Nat} {t : TypeId} {cs : Array Value} (h : Blk w g t cs) (v : Array Value) : Only [g] w (w.setRow g v) ∧ Blk (w.setRow g v) g t v := by
  unfold Blk at h ⊢
  refine ⟨⟨rfl, rfl, rfl, by simp [World.setRow], fun k hk => ?_⟩, ?_⟩
  · simp only [World.setRow, Array.getElem?_modify]
    rw [if_neg (fun e => hk (by simp [e]))]
  · simp [World.setRow, Array.getElem?_modify, h]
/-- A store into a block of one cell: the world behind it is a name. -/
theorem wpList_store_blk {P : Program} {ops : Array Oper} {rest : List Oper} {o : Oper} {a : Act} {w : World} {Q : Exit → Act → World → Prop} (hgd : o.guard = none) (ty : TypeId) (x y : Operand) (ho : o.op = .store ty x y)
    (hd : o.dst = none) (g : Nat) (v : Value) (hx : a.eval x = .pointer (some ⟨g, 0, none⟩)) (hy : a.eval y = v) (h1 : v.oneCell' = true)
    (t : TypeId) (old : Value) (hg : Blk w g t #[old]) (hi : (P.info? ty).map (·.size) = some 1)
    (h : ∀ w', Only [g] w w' → Blk w' g t #[v] → wpList P ops Q rest a w') : wpList P ops Q (o :: rest) a w :=
  wpList_store_oneTo hgd ty x y ho hd g v hx hy h1 t old hg hi (h _ (only_setRow hg _).1 (only_setRow hg _).2)
theorem only_setCell1 {w : World} {g : Nat} {t : TypeId} {cs : Array Value} (h : Blk w g t cs) (i : Nat) (v : Value) : Only [g] w (w.setCell ⟨g, i, none⟩ v) ∧ Blk (w.setCell ⟨g, i, none⟩ v) g t (cs.setIfInBounds i v) :=
  ⟨(Only.refl _ _).setCell (by simp) _, h.set_ i v⟩
/-- A store of a value of one cell into cell i of a block known whole. -/
theorem wpList_store_cell {P : Program} {ops : Array Oper} {rest : List Oper} {o : Oper} {a : Act} {w : World} {Q : Exit → Act → World → Prop} (hgd : o.guard = none) (ty : TypeId) (x y : Operand) (ho : o.op = .store ty x y)
    (hd : o.dst = none) (g i : Nat) (v : Value) (hx : a.eval x = .pointer (some ⟨g, i, none⟩)) (hy : a.eval y = v) (h1 : v.oneCell' = true)
    (t : TypeId) (cs : Array Value) (hg : Blk w g t cs) (hi : i < cs.size) (hs : (P.info? ty).map (·.size) = some 1)
    (h : ∀ w', Only [g] w w' → Blk w' g t (cs.setIfInBounds i v) → wpList P ops Q rest a w') : wpList P ops Q (o :: rest) a w :=
  wpList_plain hgd fun _ hK => by
    subst hy
    have hrun : (storeVar ty ⟨g, i, none⟩ (a.eval y)).run P w = .ok () (w.setCell ⟨g, i, none⟩ (a.eval y)) := by
      have hcell : w.cell? ⟨g, i, none⟩ = some cs[i] := (hg.cell i).trans (Array.getElem?_eq_getElem hi)
      have hc : (a.eval y).cells = #[a.eval y] := by generalize a.eval y = v at h1; cases v <;> first | rfl | cases h1
      cases hq : P.info? ty with
      | none => simp [hq] at hs
      | some inf =>
        have hz : inf.size = 1 := by simpa [hq] using hs
        have hadd : (⟨g, i, none⟩ : Addr).add 0 = ⟨g, i, none⟩ := by simp [Addr.add]
        simp [storeVar, sizeOf, typeInfo, hq, hc, hz, storeCells, hadd, run_store P w _ _ _ h1, hcell, hg.frozen i]
    unfold Oper.wp execOp
    simp only [ho, hx, Instr.storeAt, Instr.sureAddr, Sem.run_bind, Sem.run_pure, Result.andThen_ok, hrun]
    rw [Oper.upon_skip, hd]
    exact hK _ _ (h _ (only_setCell1 hg i _).1 (only_setCell1 hg i _).2)
/-- A guard for the walk: it fits at a store of slot j at the address in slot i alone. -/
theorem at_store {P : Program} {ops : Array Oper} {rest : List Oper} {a : Act} {w : World} {Q : Exit → Act → World → Prop} {ty ty0 : TypeId} {pos : String} {after : Array Edge} (i j : Nat)
    (h : wpList P ops Q ({ dst := none, op := .store ty (.tmp i) (.tmp j), type := ty0, pos := pos, after := after, guard := none } :: rest) a w) :
    wpList P ops Q ({ dst := none, op := .store ty (.tmp i) (.tmp j), type := ty0, pos := pos, after := after, guard := none } :: rest) a w := h
/-- the same at a load from the address in slot i -/
theorem at_load {P : Program} {ops : Array Oper} {rest : List Oper} {a : Act} {w : World} {Q : Exit → Act → World → Prop} {dst : Option Tmp} {ty ty0 : TypeId} {pos : String} {after : Array Edge} (i : Nat)
    (h : wpList P ops Q ({ dst := dst, op := .load ty (.tmp i), type := ty0, pos := pos, after := after, guard := none } :: rest) a w) :
    wpList P ops Q ({ dst := dst, op := .load ty (.tmp i), type := ty0, pos := pos, after := after, guard := none } :: rest) a w := h
/-- A store of a whole array into a block of its type: the world behind it is a name. -/
theorem wpList_store_arr {P : Program} {ops : Array Oper} {rest : List Oper} {o : Oper} {a : Act} {w : World} {Q : Exit → Act → World → Prop} (hgd : o.guard = none) (ty : TypeId) (x y : Operand) (ho : o.op = .store ty x y)
    (hd : o.dst = none) (g : Nat) (cells : Array Value) (hx : a.eval x = .pointer (some ⟨g, 0, none⟩)) (hy : a.eval y = .agg cells)
    (t : TypeId) (old : Array Value) (hg : Blk w g t old) (hi : (P.info? ty).map (·.size) = some cells.size)
    (hold : old.size = cells.size) (h1 : cells.all (·.oneCell') = true)
    (h : ∀ w', Only [g] w w' → Blk w' g t cells → wpList P ops Q rest a w') : wpList P ops Q (o :: rest) a w :=
  wpList_store_rowTo hgd ty x y ho hd g cells hx hy t old hg hi hold h1 (h _ (only_setRow hg _).1 (only_setRow hg _).2)
/-- 'a[i]' of an array by value whose elements are integers. -/
theorem run_index_one {P : Program} (t e : TypeId) (n : Nat) (cs : Array Value) (k kk : IntKind) (i : Nat) (v : Value) (h : P.underlying t = some (.array n e)) (hu : P.underlying e = some (.int kk))
    (hs : (P.info? e).map (·.size) = some 1) (hi : i < n) (hc : cs[i]? = some v) (w : World) : (Instr.index t (.agg cs) (.int k (i : Int))).run P w = .ok v w := by
  cases hq : P.info? e with
  | none => simp [hq] at hs
  | some inf =>
    have hz : inf.size = 1 := by simpa [hq] using hs
    simp [Instr.index, run_underlying h, asIntOf, part, isAgg, run_underlying hu, sizeOf, typeInfo, hq, hz, hi, hc]
theorem below_blk {B : Nat} {w w' : World} (h : Below B w w') {g : Nat} {t : TypeId} {cs : Array Value} (hb : Blk w g t cs) (hg : g < B) : Blk w' g t cs := (h.block g hg).trans hb
end Go.Proofs.Ytimhophelecmjaa
/- One element put behind a row of the call's own: a form for walks. -/
namespace Go.Proofs.Ytimhophelecmjaa
open Go.RowKit
theorem own_base {w : World} {base : Nat} {e : TypeId} {size n : Nat} {v : Value} {xs : List Value} (h : w.ownsRow base e size v n xs) : ∀ k, v.ownBlock = some k → base ≤ k := by
  rcases h.2 with ⟨rfl, _⟩ | ⟨g, cap, cur, rfl, hb, _⟩
  · intro k hk; simp [Value.ownBlock] at hk
  · intro k hk; simp [Value.ownBlock] at hk; omega
theorem wpList_append1 {P : Program} {ops : Array Oper} {rest : List Oper} {o : Oper} {a : Act} {w : World} {Q : Exit → Act → World → Prop} (hgd : o.guard = none) (s x : Operand) (t : TypeId)
    (ho : o.op = .call { callee := .builtin .append, args := #[s, x], argTypes := #[t, t] })
    (base : Nat) (e : TypeId) (z : Value) (bytes : Nat) (ht : P.underlying t = some (.slice e)) (hi : (P.info? e).map (fun i => (i.zero, i.size, i.bytes)) = some (some z, 1, bytes))
    (hzs : z.cells.size = 1) (hby : bytes ≤ 64) (v : Value) (n : Nat) (xs : List Value) (hs : a.eval s = v) (hown : w.ownsRow base e 1 v n xs)
    (g c : Nat) (u : Value) (hx : a.eval x = .slice (some ⟨g, 0, none⟩) 1 c) (hb : Blk w g e #[u]) (h1 : u.oneCell' = true) (hn : n + 1 ≤ 1000000000) (hbase : base ≤ w.heap.size)
    (h : ∀ v' w', w'.ownsRow base e 1 v' (n + 1) (xs ++ [u]) → Below base w w' → wpList P ops Q rest (a.put o.dst v') w') : wpList P ops Q (o :: rest) a w := by
  obtain ⟨i, hi0, hz0, hz1, hz2⟩ := info_parts hi
  refine wpList_append_own w hgd s x t ho base e i z 1 bytes ht hi0 hz0 hz1 hz2 hzs (by omega) v n xs hs hown ⟨g, 0, none⟩ 1 c [u] hx rfl ?_ ?_ ?_ ?_ hbase ?_
  · intro j y hj
    match j, hj with
    | 0, hj => simp at hj; subst hj; simpa [Addr.add] using hb.cell 0
  · intro y hy; simp at hy; subst hy; exact h1
  · unfold maxLen; omega
  · have : (n + 1) * bytes ≤ 1000000000 * 64 := Nat.mul_le_mul hn hby
    omega
  · intro v' w' h2 h3 _
    exact h v' w' h2 ((Below.refl _ _).grown h3 hbase (own_base hown))
end Go.Proofs.Ytimhophelecmjaa
/- Elements put behind a row of the call's own, with which block may have turned: forms for walks. -/
namespace Go.Proofs.Ytimhophelecmjaa
open Go.RowKit
theorem own_shape {w : World} {base : Nat} {e : TypeId} {size n : Nat} {v : Value} {xs : List Value} (h : w.ownsRow base e size v n xs) : ∃ A c, v = .slice A n c := by
  rcases h.2 with ⟨rfl, rfl⟩ | ⟨g, cap, cur, rfl, _⟩
  · exact ⟨none, 0, rfl⟩
  · exact ⟨some ⟨g, 0, none⟩, cap, rfl⟩
/-- what the slice's own row is, or some block that is new -/
theorem wpList_append1g {P : Program} {ops : Array Oper} {rest : List Oper} {o : Oper} {a : Act} {w : World} {Q : Exit → Act → World → Prop} (hgd : o.guard = none) (s x : Operand) (t : TypeId)
    (ho : o.op = .call { callee := .builtin .append, args := #[s, x], argTypes := #[t, t] })
    (base : Nat) (e : TypeId) (z : Value) (bytes : Nat) (ht : P.underlying t = some (.slice e)) (hi : (P.info? e).map (fun i => (i.zero, i.size, i.bytes)) = some (some z, 1, bytes))
    (hzs : z.cells.size = 1) (hby : bytes ≤ 64) (v : Value) (n : Nat) (xs : List Value) (hs : a.eval s = v) (hown : w.ownsRow base e 1 v n xs)
    (g c : Nat) (u : Value) (hx : a.eval x = .slice (some ⟨g, 0, none⟩) 1 c) (hb : Blk w g e #[u]) (h1 : u.oneCell' = true) (hn : n + 1 ≤ 1000000000) (hbase : base ≤ w.heap.size)
    (h : ∀ v' w', w'.ownsRow base e 1 v' (n + 1) (xs ++ [u]) → w.grownBy w' v.ownBlock → (v'.ownBlock = v.ownBlock ∨ v'.ownBlock = some w.heap.size) → wpList P ops Q rest (a.put o.dst v') w') : wpList P ops Q (o :: rest) a w := by
  obtain ⟨i, hi0, hz0, hz1, hz2⟩ := info_parts hi
  refine wpList_append_any w hgd s x t ho base e i z 1 bytes ht hi0 hz0 hz1 hz2 hzs (by omega) v n xs hs hown (g + 1) (some ⟨g, 0, none⟩) 1 c [u] hx ?_ ?_ ?_ ?_ hbase h
  · exact ⟨rfl, fun _ => ⟨_, rfl, by simp, fun j y hj => by
      match j, hj with
      | 0, hj => simp at hj; subst hj; simpa [Addr.add] using hb.cell 0⟩⟩
  · intro y hy; simp at hy; subst hy; exact h1
  · unfold maxLen; omega
  · have : (n + 1) * bytes ≤ 1000000000 * 64 := Nat.mul_le_mul hn hby
    omega
theorem wpList_append_row {P : Program} {ops : Array Oper} {rest : List Oper} {o : Oper} {a : Act} {w : World} {Q : Exit → Act → World → Prop} (hgd : o.guard = none) (s x : Operand) (t : TypeId)
    (ho : o.op = .call { callee := .builtin .append, args := #[s, x], argTypes := #[t, t] })
    (base : Nat) (e : TypeId) (z : Value) (bytes : Nat) (ht : P.underlying t = some (.slice e)) (hi : (P.info? e).map (fun i => (i.zero, i.size, i.bytes)) = some (some z, 1, bytes))
    (hzs : z.cells.size = 1) (hby : bytes ≤ 64) (v : Value) (n : Nat) (xs : List Value) (hs : a.eval s = v) (hown : w.ownsRow base e 1 v n xs)
    (B : Nat) (A : Option Addr) (m c : Nat) (news : List Value) (hx : a.eval x = .slice A m c) (hr : Reads w B 1 A m news) (h1 : ∀ u ∈ news, u.oneCell' = true) (hn : n + m ≤ 1000000000) (hbase : base ≤ w.heap.size)
    (h : ∀ v' w', w'.ownsRow base e 1 v' (n + m) (xs ++ news) → w.grownBy w' v.ownBlock → (v'.ownBlock = v.ownBlock ∨ v'.ownBlock = some w.heap.size) → wpList P ops Q rest (a.put o.dst v') w') : wpList P ops Q (o :: rest) a w := by
  obtain ⟨i, hi0, hz0, hz1, hz2⟩ := info_parts hi
  refine wpList_append_any w hgd s x t ho base e i z 1 bytes ht hi0 hz0 hz1 hz2 hzs (by omega) v n xs hs hown B A m c news hx hr h1 ?_ ?_ hbase h
  · unfold maxLen; omega
  · have : (n + m) * bytes ≤ 1000000000 * 64 := Nat.mul_le_mul hn hby
    omega
/-- one element put behind, as one step of a region that draws -/
theorem step_append1g {P : Program} {ops : Array Oper} {o : Oper} {a : Act} {w : World} {K : Act → World → Prop} {Q : Exit → Act → World → Prop} {E : Prop} (hgd : o.guard = none) (s x : Operand) (t : TypeId)
    (ho : o.op = .call { callee := .builtin .append, args := #[s, x], argTypes := #[t, t] })
    (base : Nat) (e : TypeId) (z : Value) (bytes : Nat) (ht : P.underlying t = some (.slice e)) (hi : (P.info? e).map (fun i => (i.zero, i.size, i.bytes)) = some (some z, 1, bytes))
    (hzs : z.cells.size = 1) (hby : bytes ≤ 64) (v : Value) (n : Nat) (xs : List Value) (hs : a.eval s = v) (hown : w.ownsRow base e 1 v n xs)
    (g c : Nat) (u : Value) (hx : a.eval x = .slice (some ⟨g, 0, none⟩) 1 c) (hb : Blk w g e #[u]) (h1 : u.oneCell' = true) (hn : n + 1 ≤ 1000000000) (hbase : base ≤ w.heap.size)
    (h : ∀ v' w', w'.ownsRow base e 1 v' (n + 1) (xs ++ [u]) → w.grownBy w' v.ownBlock → (v'.ownBlock = v.ownBlock ∨ v'.ownBlock = some w.heap.size) → K (a.put o.dst v') w') :
    if Region.wanted o (yielded ops a.tmps) = true then Oper.wp P o a w K Q else E := by
  obtain ⟨i, hi0, hz0, hz1, hz2⟩ := info_parts hi
  refine step_append_any w hgd s x t ho base e i z 1 bytes ht hi0 hz0 hz1 hz2 hzs (by omega) v n xs hs hown (g + 1) (some ⟨g, 0, none⟩) 1 c [u] hx ?_ ?_ ?_ ?_ hbase h
  · exact ⟨rfl, fun _ => ⟨_, rfl, by simp, fun j y hj => by
      match j, hj with
      | 0, hj => simp at hj; subst hj; simpa [Addr.add] using hb.cell 0⟩⟩
  · intro y hy; simp at hy; subst hy; exact h1
  · unfold maxLen; omega
  · have : (n + 1) * bytes ≤ 1000000000 * 64 := Nat.mul_le_mul hn hby
    omega
theorem grown_below {B : Nat} {w w' : World} {v : Value} {e : TypeId} {size n : Nat} {xs : List Value} (hg : w.grownBy w' v.ownBlock) (hown : w.ownsRow B e size v n xs) (hB : B ≤ w.heap.size) : Below B w w' :=
  (Below.refl _ _).grown hg hB (own_base hown)
end Go.Proofs.Ytimhophelecmjaa
/- Plain: an array of bytes as the model keeps it. No program is named here. -/
namespace Go.Proofs.Ytimhophelecmjaa
open Go.RowKit
def bytesA (l : List UInt8) : Array Value := (l.map fun b => Value.int .u8 (b.toNat : Int)).toArray
theorem bytesA_size (l : List UInt8) : (bytesA l).size = l.length := by simp [bytesA]
theorem bytesA_get (l : List UInt8) (i : Nat) (h : i < l.length) : (bytesA l)[i]? = some (.int .u8 (l[i].toNat : Int)) := by simp [bytesA, h]
theorem bytesA_set (l : List UInt8) (k : Nat) (b : UInt8) : (bytesA l).setIfInBounds k (.int .u8 (b.toNat : Int)) = bytesA (l.set k b) := by
  simp [bytesA, List.map_set]
theorem bytesA_one (l : List UInt8) : (bytesA l).all (·.oneCell') = true := by
  rw [Array.all_eq_true_iff_forall_mem]; intro x hx; simp only [bytesA, List.mem_toArray, List.mem_map] at hx; obtain ⟨_, _, rfl⟩ := hx; rfl
theorem bytesA_inj {l m : List UInt8} (h : bytesA l = bytesA m) : l = m := by
  unfold bytesA at h
  have h' := congrArg Array.toList h
  simp only at h'
  refine (List.map_inj_right ?_).1 h'
  intro a b e
  injection e with _ e
  exact UInt8.toNat_inj.1 (by omega)
/-- n bytes by a function -/
def tab {α : Type} (n : Nat) (f : Nat → α) : List α := (List.range n).map f
theorem tab_len {α : Type} (n : Nat) (f : Nat → α) : (tab n f).length = n := by simp [tab]
theorem tab_get {α : Type} (n : Nat) (f : Nat → α) (i : Nat) (h : i < (tab n f).length) : (tab n f)[i] = f i := by simp [tab]
theorem tab_set {α : Type} (n : Nat) (f g : Nat → α) (k : Nat) (b : α) (h : ∀ i, i < n → g i = if i = k then b else f i) : (tab n f).set k b = tab n g := by
  apply List.ext_getElem
  · simp [tab]
  · intro i h1 h2
    have hi : i < n := by simpa [tab] using h2
    rw [List.getElem_set, tab_get, tab_get, h i hi]
    by_cases e : k = i
    · subst e; simp
    · simp [e, Ne.symm e]
theorem tab_congr {α : Type} (n : Nat) (f g : Nat → α) (h : ∀ i, i < n → f i = g i) : tab n f = tab n g := by
  unfold tab; apply List.map_congr_left; intro a ha; exact h a (by simpa using ha)
end Go.Proofs.Ytimhophelecmjaa
/- 'string(b)' where b is a row of bytes of the call's own. -/
namespace Go.Proofs.Ytimhophelecmjaa
open Go.RowKit
theorem conv_own {w : World} {base : Nat} {v : Value} {l : List UInt8} (h : w.ownsRow base 5 1 v l.length (Lib.byteCells l)) :
    (convert 59 9 v).run Try.prog w = .ok (.string ⟨l.toArray⟩) w := by
  have h' := h
  rcases h.2 with ⟨rfl, hn⟩ | ⟨g, cap, cur, rfl, hb, hh, r⟩
  · have hl : l = [] := List.eq_nil_of_length_eq_zero hn
    subst hl
    rw [run_convert_bytes_string w _ _ 5 none 0 0 Try.underlying59 Try.underlying5 Try.underlying9]
    rfl
  · refine run_convert_bytes_back (P := Try.prog) w 59 9 5 ⟨g, 0, none⟩ cap l Try.underlying59 Try.underlying5 Try.underlying9 (fun j hj => ?_)
    rw [show (⟨g, 0, none⟩ : Addr).add j = ⟨g, j, none⟩ by unfold Addr.add; split <;> simp_all, h'.cellAt j (by omega)]
    simp [Lib.byteCells, hj]
end Go.Proofs.Ytimhophelecmjaa
/- 'copy(a[:], s)' of a text that is longer than the array; results of which the first lies in a cell. Over any program. -/
namespace Go.Proofs.Ytimhophelecmjaa
open Go.RowKit
theorem results_cell_tmp2 {P : Program} {fn : Func} {p t1 t2 : Tmp} {ty : TypeId} (h : fn.results = #[.cell p ty, .tmp t1, .tmp t2]) (tmps : Array Value) (w : World) (g : Nat) (t : TypeId) (cs : Array Value) (fr : Nat × Nat) (d : TypeDesc)
    (hp : tmps.getD p undef = .pointer (some ⟨g, 0, none⟩)) (hg : w.heap[g]? = some (.cells cs t fr))
    (hu : P.underlying ty = some d) (hd : (match d with | .struct _ | .array _ _ => true | _ => false) = true) (hi : (P.info? ty).map (·.size) = some cs.size) :
    (results fn tmps).run P w = .ok (.tuple #[.agg cs, tmps.getD t1 undef, tmps.getD t2 undef]) w := by
  have hp' : tmps[p]?.getD undef = .pointer (some ⟨g, 0, none⟩) := by simpa using hp
  simp [results, h, hp', asAddr, run_loadVar_row w g t ty cs fr d hg hu hd hi]
theorem run_copy_text {P : Program} (w : World) (dT sT ty elem : TypeId) (g n : Nat) (s : ByteArray) (l : List UInt8) (t : TypeId)
    (hu : P.underlying dT = some (.slice elem)) (hs : (P.info? elem).map (·.size) = some 1) (hg : Blk w g t (bytesA l)) (hn : l.length = n) (hle : n ≤ s.size) :
    (Builtin.copy_ #[dT, sT] ty #[.slice (some ⟨g, 0, none⟩) n n, .string s]).run P w = .ok (goInt n) (w.setRow g (bytesA (s.data.toList.take n))) := by
  have hl : (bytesA (s.data.toList.take n)).toList.length = n := by
    rw [Array.length_toList, bytesA_size, List.length_take, Array.length_toList]; exact Nat.min_eq_left hle
  have hone : ∀ v ∈ (bytesA (s.data.toList.take n)).toList, v.oneCell' = true := by
    intro v hv
    simp only [bytesA, List.mem_map] at hv
    obtain ⟨b, _, rfl⟩ := hv
    rfl
  have hst := run_storeCells_at (P := P) g 0 t (bytesA (s.data.toList.take n)).toList 0 (bytesA l) w hg (by rw [hl, bytesA_size, hn]; omega) hone
  rw [hl] at hst
  simp only [Nat.add_zero, Nat.zero_add, List.take_zero, List.nil_append] at hst
  rw [List.drop_of_length_le (by rw [Array.length_toList, bytesA_size, hn]; omega), List.append_nil] at hst
  have hmin : Nat.min s.size n = n := Nat.min_eq_right hle
  have htk : List.take n (List.map (fun b : UInt8 => Value.int IntKind.u8 (b.toNat : Int)) s.data.toList) = (bytesA (s.data.toList.take n)).toList := by
    rw [← List.map_take]; rfl
  cases hq : P.info? elem with
  | none => simp [hq] at hs
  | some i =>
    simp [Builtin.copy_, run_underlying hu, Builtin.lenOf, Builtin.firstCells, sizeOf, typeInfo, hq, hmin]
    rw [htk, hst]
    simp [Result.andThen]
theorem wpList_copy_text {P : Program} {ops : Array Oper} {rest : List Oper} {o : Oper} {a : Act} {w : World} {Q : Exit → Act → World → Prop} (hgd : o.guard = none) (x y : Operand) (dT sT : TypeId)
    (ho : o.op = .call { callee := .builtin .copy, args := #[x, y], argTypes := #[dT, sT] })
    (elem : TypeId) (g n : Nat) (s : ByteArray) (l : List UInt8) (t : TypeId)
    (hu : P.underlying dT = some (.slice elem)) (hs : (P.info? elem).map (·.size) = some 1) (hg : Blk w g t (bytesA l)) (hn : l.length = n) (hle : n ≤ s.size)
    (hx : a.eval x = .slice (some ⟨g, 0, none⟩) n n) (hy : a.eval y = .string s)
    (h : ∀ w', Only [g] w w' → Blk w' g t (bytesA (s.data.toList.take n)) → wpList P ops Q rest (a.put o.dst (goInt n)) w') : wpList P ops Q (o :: rest) a w :=
  wpList_plain hgd fun _ hK => by
    have hrun := run_copy_text (P := P) w dT sT o.type elem g n s l t hu hs hg hn hle
    unfold Oper.wp execOp
    simp only [ho, resolve, invoke, builtin, Sem.run_bind, Sem.run_pure, Result.andThen_ok, List.map_toArray, List.map_cons, List.map_nil, hx, hy, hrun]
    exact hK _ _ (h _ (only_setRow hg _).1 (only_setRow hg _).2)
/-- A guard for the walk: it fits at a copy alone. -/
theorem at_copy {P : Program} {ops : Array Oper} {rest : List Oper} {a : Act} {w : World} {Q : Exit → Act → World → Prop} {dst : Option Tmp} {args : Array Operand} {ts : Array TypeId} {ty0 : TypeId} {pos : String} {after : Array Edge}
    (h : wpList P ops Q ({ dst := dst, op := .call { callee := .builtin .copy, args := args, argTypes := ts }, type := ty0, pos := pos, after := after, guard := none } :: rest) a w) :
    wpList P ops Q ({ dst := dst, op := .call { callee := .builtin .copy, args := args, argTypes := ts }, type := ty0, pos := pos, after := after, guard := none } :: rest) a w := h
end Go.Proofs.Ytimhophelecmjaa
/- Guarded operations of a plain region: a whole array loaded, two arrays compared. Over any program. -/
namespace Go.Proofs.Ytimhophelecmjaa
open Go.RowKit
section
variable {P : Program} {ops : Array Oper} {rest : List Oper} {o : Oper} {a : Act} {w : World} {Q : Exit → Act → World → Prop}
theorem wpList_load_rowg (hw : Region.wanted o (yielded ops a.tmps) = true) (ty : TypeId) (x : Operand) (ho : o.op = .load ty x)
    (g : Nat) (hx : a.eval x = .pointer (some ⟨g, 0, none⟩)) (t : TypeId) (cs : Array Value) (d : TypeDesc) (hg : Blk w g t cs)
    (hu : P.underlying ty = some d) (hd : (match d with | .struct _ | .array _ _ => true | _ => false) = true) (hi : (P.info? ty).map (·.size) = some cs.size)
    (h : wpList P ops Q rest (a.put o.dst (.agg cs)) w) : wpList P ops Q (o :: rest) a w :=
  wpList_step fun _ hK => by rw [if_pos hw]; exact wp_load_row ty x ho g hx t cs (0, 0) d hg hu hd hi (hK _ _ h)
theorem wpList_eql_rowg (hw : Region.wanted o (yielded ops a.tmps) = true) (ty yt : TypeId) (x y : Operand) (ho : o.op = .binOp .eql ty x y yt)
    (cx cy : Array Value) (hx : a.eval x = .agg cx) (hy : a.eval y = .agg cy) (hg : P.eqGuardType P.depth ty = false) (r : Bool) (he : ∀ V, (Op.equal ty (.agg cx) (.agg cy)).run P V = .ok r V)
    (h : wpList P ops Q rest (a.put o.dst (.bool r)) w) : wpList P ops Q (o :: rest) a w :=
  wpList_step fun K hK => by
    rw [if_pos hw]
    have h' := hK _ _ h
    have hrun : (execOp a.eval o).run P w = .ok (.value (.bool r)) w := by
      unfold execOp
      simp only [ho, hx, hy]
      unfold eqGuard binOp
      simp [go_sem, hg, he]
    unfold Oper.wp
    rw [hrun, Oper.upon_value]
    exact h'
/-- a guard: it fits at a load from the address in slot i alone, guarded or not -/
theorem at_loadg {dst : Option Tmp} {ty ty0 : TypeId} {pos : String} {after : Array Edge} {gd : Option (Nat × Bool)} (i : Nat)
    (h : wpList P ops Q ({ dst := dst, op := .load ty (.tmp i), type := ty0, pos := pos, after := after, guard := gd } :: rest) a w) :
    wpList P ops Q ({ dst := dst, op := .load ty (.tmp i), type := ty0, pos := pos, after := after, guard := gd } :: rest) a w := h
/-- a guard: it fits at an '==' of the slots i and j alone, guarded or not -/
theorem at_eqlg {dst : Option Tmp} {ty yt ty0 : TypeId} {pos : String} {after : Array Edge} {gd : Option (Nat × Bool)} (i j : Nat)
    (h : wpList P ops Q ({ dst := dst, op := .binOp .eql ty (.tmp i) (.tmp j) yt, type := ty0, pos := pos, after := after, guard := gd } :: rest) a w) :
    wpList P ops Q ({ dst := dst, op := .binOp .eql ty (.tmp i) (.tmp j) yt, type := ty0, pos := pos, after := after, guard := gd } :: rest) a w := h
end
end Go.Proofs.Ytimhophelecmjaa
/- A region that draws its order, by hand: a load of a whole array taken first, a store of a whole array as a step. Over any program. -/
namespace Go.Proofs.Ytimhophelecmjaa
open Go.RowKit
section
variable {P : Program} {ops : Array Oper} {S : World → Prop} {a : Act}
theorem yieldsIf_load_row {o : Oper} (hw : Region.wanted o (yielded ops a.tmps) = true) (ty : TypeId) (x : Operand) (ho : o.op = .load ty x)
    (g : Nat) (hx : a.eval x = .pointer (some ⟨g, 0, none⟩)) (t : TypeId) (cs : Array Value) (d : TypeDesc) (hg : ∀ w, S w → Blk w g t cs)
    (hu : P.underlying ty = some d) (hd : (match d with | .struct _ | .array _ _ => true | _ => false) = true) (hi : (P.info? ty).map (·.size) = some cs.size) : YieldsIf P ops S o (.agg cs) a :=
  .inl ⟨hw, fun w hS => by
    unfold execOp
    simp only [ho, hx, Instr.loadAt, Instr.sureAddr, Sem.run_bind, Sem.run_pure, Result.andThen_ok, run_loadVar_row w g t ty cs (0, 0) d (hg w hS) hu hd hi]⟩
theorem step_store_arr {o : Oper} {w : World} {K : Act → World → Prop} {Q : Exit → Act → World → Prop} {E : Prop} (hgd : o.guard = none) (ty : TypeId) (x y : Operand) (ho : o.op = .store ty x y)
    (hd : o.dst = none) (g : Nat) (cells : Array Value) (hx : a.eval x = .pointer (some ⟨g, 0, none⟩)) (hy : a.eval y = .agg cells)
    (t : TypeId) (old : Array Value) (hg : Blk w g t old) (hi : (P.info? ty).map (·.size) = some cells.size)
    (hold : old.size = cells.size) (h1 : cells.all (·.oneCell') = true)
    (h : ∀ w', Only [g] w w' → Blk w' g t cells → K a w') : if Region.wanted o (yielded ops a.tmps) = true then Oper.wp P o a w K Q else E := by
  have hw : Region.wanted o (yielded ops a.tmps) = true := by simp [Region.wanted, hgd]
  rw [if_pos hw]
  have hrun := run_storeVar_row (P := P) w g t ty old cells hg hi hold h1
  unfold Oper.wp execOp
  simp only [ho, hx, hy, Instr.storeAt, Instr.sureAddr, Sem.run_bind, Sem.run_pure, Result.andThen_ok, hrun]
  rw [Oper.upon_skip, hd]
  exact h _ (only_setRow hg _).1 (only_setRow hg _).2
end
end Go.Proofs.Ytimhophelecmjaa
/- A parameter that is an array of bytes by value: opened to its bytes, and read the same in every world. Over any program. -/
namespace Go.Proofs.Ytimhophelecmjaa
open Go.RowKit Go.ChangeShapes
section
variable {H : Type} {enc : TypeId × Value → H} {P : Program} {w w' : World} {base : Nat} {spare : Nat → Bool} {held : Bool} {t e : TypeId} {n : Nat} {v : Value} {d : DataW H} {ps : List MemPlace}
theorem trod_int_world {base' : Nat} {spare' : Nat → Bool} {held' : Bool} {k : IntKind} (he : P.underlying e = some (.int k)) (m : Nat) (cs : List Value) : DataW.trod enc P w' base' spare' held' m e cs = DataW.trod enc P w base spare held m e cs := by
  cases m with
  | zero => rfl
  | succ m =>
    unfold DataW.trod
    rw [he]
    rcases cs with _ | ⟨v, _ | ⟨v2, r⟩⟩
    · rfl
    · cases v <;> rfl
    · cases v <;> rfl
theorem open_bytes {r : Reach} {b0 : Nat} (ht : P.underlying t = some (.array n e)) (he : P.underlying e = some (.int .u8)) (hc : P.cellsOf e = 1) (hct : P.cellsOf t = n)
    (hval : Value.okWide P w r b0 t v) (hd : DataW.Trod enc P w base spare held t v d ps) :
    ∃ l : List UInt8, v = .agg (bytesA l) ∧ ps = [] ∧ l.length = n ∧ ∀ {w' : World} {base' : Nat} {spare' : Nat → Bool} {held' : Bool}, DataW.Trod enc P w' base' spare' held' t (.agg (bytesA l)) d [] := by
  simp only [Value.okWide, ht] at hval
  obtain ⟨cs, rfl, hs, _⟩ := hval
  obtain ⟨fuel, hf⟩ := hd
  obtain ⟨xs, m, rfl, hx, hl, hxl, hi⟩ := DataW.trod_array ht hf
  have hcs : cs.size = n := by rw [hs, hct]
  have hel : ∀ i (h : i < n), ∃ z : Int, cs[i]? = some (.int .u8 z) ∧ 0 ≤ z ∧ z < 256 ∧ ∃ x, xs[i]? = some (x, []) := by
    intro i h
    have h1 := hi i h
    rw [hc, Nat.mul_one, List.getElem?_eq_getElem (by omega)] at h1
    obtain ⟨z, e1, e2, e3⟩ := DataW.trod_int he h1
    have h2 : (cs.toList.drop i)[0]? = some (.int .u8 z) := by
      have := congrArg (fun q : List Value => q[0]?) e1
      simpa [List.getElem?_take, Value.cells] using this
    refine ⟨z, by simpa using h2, ?_, ?_, ?_⟩
    · simp [Lit.wf, IntKind.min, IntKind.max, IntKind.signed, IntKind.bits] at e3; omega
    · simp [Lit.wf, IntKind.min, IntKind.max, IntKind.signed, IntKind.bits] at e3; omega
    · exact ⟨_, by rw [List.getElem?_eq_getElem (by omega), e2]⟩
  have hb : cs = bytesA (cs.toList.map fun v => match v with | .int _ z => UInt8.ofNat z.toNat | _ => 0) := by
    apply Array.ext_getElem?
    intro i
    by_cases h : i < n
    · obtain ⟨z, e1, z0, z1, _⟩ := hel i h
      rw [e1]
      simp [bytesA, e1]
      omega
    · rw [Array.getElem?_eq_none (by omega), Array.getElem?_eq_none (by simp [bytesA]; omega)]
  refine ⟨_, congrArg Value.agg hb, ?_, by simp [hcs], ?_⟩
  · have := congrArg (·.2) hx
    simp only at this
    rw [this, List.flatMap_eq_nil_iff]
    intro x hxm
    obtain ⟨i, hi1, rfl⟩ := List.getElem_of_mem hxm
    obtain ⟨z, _, _, _, y, hy⟩ := hel i (by omega)
    rw [List.getElem?_eq_getElem hi1] at hy
    rw [Option.some.inj hy]
  · intro w' base' spare' held'
    rw [← hb]
    refine ⟨m + 1, ?_⟩
    have hps : ps = [] := by
      have := congrArg (·.2) hx
      simp only at this
      rw [this, List.flatMap_eq_nil_iff]
      intro x hxm
      obtain ⟨i, hi1, rfl⟩ := List.getElem_of_mem hxm
      obtain ⟨z, _, _, _, y, hy⟩ := hel i (by omega)
      rw [List.getElem?_eq_getElem hi1] at hy
      rw [Option.some.inj hy]
    rw [hps] at hf
    rw [← hf]
    unfold DataW.trod
    rw [ht]
    simp only [trod_int_world (w := w) (w' := w') (base := base) (spare := spare) (held := held) (base' := base') (spare' := spare') (held' := held') he]
end
end Go.Proofs.Ytimhophelecmjaa
/- '==' of two arrays of bytes. Over any program. -/
namespace Go.Proofs.Ytimhophelecmjaa
open Go.RowKit
section
variable {P : Program} (w : World)
theorem byte_beq (a b : UInt8) : ((a.toNat : Int) == (b.toNat : Int)) = (a == b) := by
  rw [Bool.eq_iff_iff, beq_iff_eq, beq_iff_eq]
  exact ⟨fun h => UInt8.toNat_inj.1 (by omega), fun h => by rw [h]⟩
theorem run_eqItems_bytes (d : Nat) {e : TypeId} (hu : P.underlying e = some (.int .u8)) (l m : List UInt8) : ∀ is : List Nat, (∀ j ∈ is, j < l.length ∧ j < m.length) →
    (Op.eqItems (d + 1) e 1 (bytesA l) (bytesA m) is).run P w = .ok (is.all fun j => l.getD j 0 == m.getD j 0) w
  | [], _ => by simp [Op.eqItems]
  | i :: is, h => by
    have hi := h i (by simp)
    have he : P.plainKey e = true := by simp [Program.plainKey, hu]
    have p1 := run_part_plain (P := P) w he (xs := bytesA l) (off := i * 1) (v := .int .u8 (l[i]'hi.1).toNat) (by rw [Nat.mul_one]; exact bytesA_get l i hi.1)
    have p2 := run_part_plain (P := P) w he (xs := bytesA m) (off := i * 1) (v := .int .u8 (m[i]'hi.2).toNat) (by rw [Nat.mul_one]; exact bytesA_get m i hi.2)
    have ih := run_eqItems_bytes d hu l m is (fun j hj => h j (by simp [hj]))
    have e1 : l.getD i 0 = l[i]'hi.1 := by simp [List.getD_eq_getElem?_getD, hi.1]
    have e2 : m.getD i 0 = m[i]'hi.2 := by simp [List.getD_eq_getElem?_getD, hi.2]
    simp only [Op.eqItems, Sem.run_bind, p1, p2, Result.andThen_ok, run_equalIn_int w d e .u8 .u8 _ _ hu, byte_beq, List.all_cons, e1, e2]
    cases hb : (l[i]'hi.1 == m[i]'hi.2)
    · simp
    · simpa using ih
theorem all_range_eq (l m : List UInt8) (h : l.length = m.length) : ((List.range l.length).all fun j => l.getD j 0 == m.getD j 0) = decide (l = m) := by
  rw [Bool.eq_iff_iff, List.all_eq_true, decide_eq_true_iff]
  constructor
  · intro ha
    apply List.ext_getElem h
    intro i h1 h2
    have := ha i (by simpa using h1)
    simpa [List.getD_eq_getElem?_getD, h1, h2] using this
  · rintro rfl j _
    simp
theorem run_eq_bytes {t e : TypeId} {n : Nat} (ht : P.underlying t = some (.array n e)) (hu : P.underlying e = some (.int .u8)) (hc : P.cellsOf e = 1) (l m : List UInt8) (hl : l.length = n) (hm : m.length = n) :
    (Op.equalIn 10000 t (.agg (bytesA l)) (.agg (bytesA m))).run P w = .ok (decide (l = m)) w := by
  obtain ⟨i, hi⟩ := info_of_underlying hu
  rw [show 10000 = 9999 + 1 from rfl, run_equalIn_array w 9999 _ _ ht hi, hc, run_eqItems_bytes w 9998 hu l m _ (fun j hj => by rw [List.mem_range] at hj; omega), ← hl, all_range_eq l m (by omega)]
end
end Go.Proofs.Ytimhophelecmjaa
/- Plain: keys, their order, lists that rise, sets. No program is named here. -/
namespace Go.Proofs.Ytimhophelecmjaa
open Go.RowKit
/-- a key: 32 bytes -/
abbrev K32 := {l : List UInt8 // l.length = 32}
instance : Inhabited K32 := ⟨⟨List.replicate 32 0, by simp⟩⟩
def encK (x : K32) : List Value := (bytesA x.1).toList
theorem encK_len (x : K32) : (encK x).length = 32 := by
  show (bytesA x.1).toList.length = 32
  rw [Array.length_toList, bytesA_size]; exact x.2
theorem encK_arr (x : K32) : (encK x).toArray = bytesA x.1 := by simp [encK]
theorem encK_one (x : K32) : ∀ v ∈ encK x, v.oneCell' = true := by
  intro v hv
  simp only [encK, bytesA, List.mem_map] at hv
  obtain ⟨_, _, rfl⟩ := hv
  rfl
theorem encK_inj {x y : K32} (h : encK x = encK y) : x = y := by
  apply Subtype.ext
  apply bytesA_inj
  rw [← encK_arr, ← encK_arr, h]
/-- a is below b -/
def cmpK (a b : K32) : Int := Lib.compareBytes a.1 b.1
def ltK (a b : K32) : Bool := decide (cmpK a b < 0)
theorem cb_self : ∀ l : List UInt8, Lib.compareBytes l l = 0
  | [] => rfl
  | a :: l => by unfold Lib.compareBytes; rw [if_neg (UInt8.lt_irrefl a), if_neg (UInt8.lt_irrefl a)]; exact cb_self l
theorem cb_anti : ∀ l m : List UInt8, Lib.compareBytes m l = - Lib.compareBytes l m
  | [], [] => rfl
  | [], _ :: _ => rfl
  | _ :: _, [] => rfl
  | a :: l, b :: m => by
    unfold Lib.compareBytes
    by_cases h1 : a < b
    · have h2 : ¬ b < a := UInt8.not_lt.2 (UInt8.le_of_lt h1)
      simp [h1, h2]
    · by_cases h2 : b < a
      · simp [h1, h2]
      · simp only [h1, h2, if_false]; exact cb_anti l m
theorem cb_eq : ∀ l m : List UInt8, Lib.compareBytes l m = 0 → l = m
  | [], [], _ => rfl
  | [], _ :: _, h => by simp [Lib.compareBytes] at h
  | _ :: _, [], h => by simp [Lib.compareBytes] at h
  | a :: l, b :: m, h => by
    unfold Lib.compareBytes at h
    by_cases h1 : a < b
    · simp [h1] at h
    · by_cases h2 : b < a
      · simp [h1, h2] at h
      · simp only [h1, h2, if_false] at h
        have e : a = b := UInt8.le_antisymm (UInt8.not_lt.1 h2) (UInt8.not_lt.1 h1)
        rw [e, cb_eq l m h]
theorem cb_trans : ∀ l m n : List UInt8, Lib.compareBytes l m < 0 → Lib.compareBytes m n < 0 → Lib.compareBytes l n < 0
  | [], [], _, h, _ => by simp [Lib.compareBytes] at h
  | [], _ :: _, [], _, h => by simp [Lib.compareBytes] at h
  | [], _ :: _, _ :: _, _, _ => by simp [Lib.compareBytes]
  | _ :: _, [], _, h, _ => by simp [Lib.compareBytes] at h
  | _ :: _, _ :: _, [], _, h => by simp [Lib.compareBytes] at h
  | a :: l, b :: m, c :: n, h1, h2 => by
    unfold Lib.compareBytes at h1 h2 ⊢
    by_cases a1 : a < b
    · by_cases b1 : b < c
      · simp [UInt8.lt_trans a1 b1]
      · by_cases b2 : c < b
        · simp [b1, b2] at h2
        · have e : b = c := UInt8.le_antisymm (UInt8.not_lt.1 b2) (UInt8.not_lt.1 b1)
          subst e; simp [a1]
    · by_cases a2 : b < a
      · simp [a1, a2] at h1
      · have e : a = b := UInt8.le_antisymm (UInt8.not_lt.1 a2) (UInt8.not_lt.1 a1)
        subst e
        simp only [a1, if_false] at h1
        by_cases b1 : a < c
        · simp [b1]
        · by_cases b2 : c < a
          · simp [b1, b2] at h2
          · simp only [b1, b2, if_false] at h2 ⊢
            exact cb_trans l m n h1 h2
theorem cb_at : ∀ (k : Nat) (l m : List UInt8) (hk : k < l.length) (hm : k < m.length), l.take k = m.take k → l[k] ≠ m[k] → (Lib.compareBytes l m < 0 ↔ l[k] < m[k])
  | 0, a :: l, b :: m, _, _, _, hne => by
    simp only [List.getElem_cons_zero] at hne ⊢
    unfold Lib.compareBytes
    by_cases h1 : a < b
    · simp [h1]
    · have h2 : b < a := UInt8.lt_of_le_of_ne (UInt8.not_lt.1 h1) (Ne.symm hne)
      simp [h1, h2]
  | k + 1, a :: l, b :: m, hk, hm, ht, hne => by
    simp only [List.getElem_cons_succ] at hne ⊢
    simp only [List.take_succ_cons, List.cons.injEq] at ht
    obtain ⟨rfl, ht⟩ := ht
    unfold Lib.compareBytes
    rw [if_neg (UInt8.lt_irrefl a), if_neg (UInt8.lt_irrefl a)]
    exact cb_at k l m (by simpa using hk) (by simpa using hm) ht hne
theorem ltK_at (a b : K32) (k : Nat) (hk : k < 32) (ht : a.1.take k = b.1.take k) (hne : a.1[k]'(by rw [a.2]; exact hk) ≠ b.1[k]'(by rw [b.2]; exact hk)) :
    ltK a b = decide (((a.1[k]'(by rw [a.2]; exact hk)).toNat : Int) < ((b.1[k]'(by rw [b.2]; exact hk)).toNat : Int)) := by
  unfold ltK cmpK
  have h := cb_at k a.1 b.1 (by rw [a.2]; exact hk) (by rw [b.2]; exact hk) ht hne
  rw [decide_eq_decide, h, UInt8.lt_iff_toNat_lt]
  omega
theorem ltK_same (a b : K32) (h : a.1.take 32 = b.1.take 32) : ltK a b = false := by
  rw [List.take_of_length_le (by rw [a.2]; exact Nat.le_refl _), List.take_of_length_le (by rw [b.2]; exact Nat.le_refl _)] at h
  unfold ltK cmpK; rw [h, cb_self]; rfl
theorem ltK_irrefl (a : K32) : ltK a a = false := by simp [ltK, cmpK, cb_self]
theorem ltK_trans {a b c : K32} (h1 : ltK a b = true) (h2 : ltK b c = true) : ltK a c = true := by
  simp only [ltK, decide_eq_true_eq] at *
  exact cb_trans _ _ _ h1 h2
theorem ltK_tri {a b : K32} (h1 : ltK a b = false) (h2 : ltK b a = false) : a = b := by
  have g1 : ¬ Lib.compareBytes a.1 b.1 < 0 := of_decide_eq_false h1
  have g2 : ¬ Lib.compareBytes b.1 a.1 < 0 := of_decide_eq_false h2
  have h3 := cb_anti a.1 b.1
  exact Subtype.ext (cb_eq _ _ (by omega))
theorem ltK_asym {a b : K32} (h : ltK a b = true) : ltK b a = false := by
  cases h2 : ltK b a with
  | false => rfl
  | true => have := ltK_trans h h2; rw [ltK_irrefl] at this; cases this
theorem ltK_ntrans {a b c : K32} (h1 : ltK a b = false) (h2 : ltK b c = false) : ltK a c = false := by
  cases h : ltK a c with
  | false => rfl
  | true =>
    cases h3 : ltK b a with
    | true => rw [ltK_trans h3 h] at h2; cases h2
    | false => rw [ltK_tri h1 h3] at h; rw [h] at h2; cases h2
theorem ltOf_cmpK : Go.Proofs.ltOf cmpK = ltK := rfl
theorem swoK : Go.Sort.SWO (Go.Proofs.ltOf cmpK) := ⟨ltK_irrefl, fun _ _ _ => ltK_trans, fun _ _ _ => ltK_ntrans⟩
/-- it rises: none is below the one ahead of it -/
abbrev Rises (l : List K32) : Prop := l.Pairwise fun a b => ltK b a = false
/-- a set: each is below the next -/
abbrev IsSet (l : List K32) : Prop := l.Pairwise fun a b => ltK a b = true
theorem IsSet.rises {l : List K32} (h : IsSet l) : Rises l := h.imp ltK_asym
theorem rises_unique {l m : List K32} (hp : l.Perm m) (h1 : Rises l) (h2 : Rises m) : l = m :=
  hp.eq_of_pairwise (fun _ _ _ _ h3 h4 => ltK_tri h4 h3) h1 h2
/-- k ahead of the first one that it is below, or behind all -/
def putK (k : K32) : List K32 → List K32
  | [] => [k]
  | a :: l => if ltK k a then k :: a :: l else a :: putK k l
def sortK (l : List K32) : List K32 := l.foldl (fun s k => putK k s) []
theorem putK_perm (k : K32) : ∀ l, (putK k l).Perm (k :: l)
  | [] => .refl _
  | a :: l => by
    unfold putK
    split
    · exact .refl _
    · exact ((putK_perm k l).cons a).trans (.swap _ _ _)
theorem putK_mem {k x : K32} {l : List K32} : x ∈ putK k l ↔ x = k ∨ x ∈ l := by rw [(putK_perm k l).mem_iff]; simp
theorem putK_rises (k : K32) : ∀ l, Rises l → Rises (putK k l)
  | [], _ => by simp [putK]
  | a :: l, h => by
    have h' := List.pairwise_cons.1 h
    unfold putK
    split
    · rename_i hk
      refine List.pairwise_cons.2 ⟨fun x hx => ?_, h⟩
      rcases List.mem_cons.1 hx with rfl | hx
      · exact ltK_asym hk
      · exact ltK_ntrans (h'.1 x hx) (ltK_asym hk)
    · rename_i hk
      refine List.pairwise_cons.2 ⟨fun x hx => ?_, putK_rises k l h'.2⟩
      rcases putK_mem.1 hx with rfl | hx
      · simpa using hk
      · exact h'.1 x hx
theorem sortK_perm (l : List K32) : (sortK l).Perm l := by
  have h : ∀ (l s : List K32), (l.foldl (fun s k => putK k s) s).Perm (l ++ s) := by
    intro l
    induction l with
    | nil => intro s; exact .refl _
    | cons a l ih => intro s; exact (ih _).trans (((putK_perm a s).append_left l).trans List.perm_middle)
  have := h l []
  rwa [List.append_nil] at this
theorem sortK_rises (l : List K32) : Rises (sortK l) := by
  have h : ∀ (l s : List K32), Rises s → Rises (l.foldl (fun s k => putK k s) s) := by
    intro l
    induction l with
    | nil => intro s hs; exact hs
    | cons a l ih => intro s hs; exact ih _ (putK_rises a s hs)
  exact h l [] (by simp)
theorem sortK_of {l m : List K32} (hp : l.Perm m) (h : Rises l) : l = sortK m := rises_unique (hp.trans (sortK_perm m).symm) h (sortK_rises m)
theorem sortK_len (l : List K32) : (sortK l).length = l.length := (sortK_perm l).length_eq
theorem sortK_mem {l : List K32} {x : K32} : x ∈ sortK l ↔ x ∈ l := (sortK_perm l).mem_iff
theorem sortK_congr {l m : List K32} (h : l.Perm m) : sortK l = sortK m := sortK_of ((sortK_perm l).trans h) (sortK_rises l)
theorem sortK_self {l : List K32} (h : Rises l) : sortK l = l := (sortK_of (.refl l) h).symm
end Go.Proofs.Ytimhophelecmjaa
/- Rows of elements of k cells each (arrays, structs): read, load, store, copy, append, make, slice. Over any program. -/
namespace Go.Proofs.Ytimhophelecmjaa
open Go.RowKit
def cellsOf {α : Type} (enc : α → List Value) (l : List α) : List Value := l.flatMap enc
/-- rows of type t have elements of type e, of k cells each, which 'enc' lists -/
structure RowTy (P : Program) (t e : TypeId) {α : Type} (enc : α → List Value) (k : Nat) : Prop where
  slice : P.underlying t = some (.slice e)
  size : (P.info? e).map (·.size) = some k
  len : ∀ x, (enc x).length = k
  one : ∀ x, ∀ v ∈ enc x, v.oneCell' = true
  agg : ∀ w, (isAgg e).run P w = .ok true w
  pos : 0 < k
section
variable {α : Type} {enc : α → List Value} {k : Nat}
theorem cellsOf_len (hk : ∀ x, (enc x).length = k) : ∀ l : List α, (cellsOf enc l).length = l.length * k
  | [] => by simp [cellsOf]
  | a :: l => by
    have ih := cellsOf_len hk l
    simp only [cellsOf, List.flatMap_cons, List.length_append, List.length_cons, hk] at ih ⊢
    rw [ih, Nat.add_mul]; omega
theorem cellsOf_append (l m : List α) : cellsOf enc (l ++ m) = cellsOf enc l ++ cellsOf enc m := by simp [cellsOf]
theorem cellsOf_cons (a : α) (m : List α) : cellsOf enc (a :: m) = enc a ++ cellsOf enc m := by simp [cellsOf]
theorem cellsOf_one (a : α) : cellsOf enc [a] = enc a := by simp [cellsOf]
theorem cellsOf_nil : cellsOf enc [] = [] := rfl
theorem cellsOf_drop (hk : ∀ x, (enc x).length = k) (l : List α) (i : Nat) : (cellsOf enc l).drop (i * k) = cellsOf enc (l.drop i) := by
  by_cases h : i ≤ l.length
  · conv => lhs; rw [← List.take_append_drop i l, cellsOf_append]
    rw [List.drop_append_of_le_length (by rw [cellsOf_len hk, List.length_take, Nat.min_eq_left h]; exact Nat.le_refl _)]
    rw [List.drop_of_length_le (by rw [cellsOf_len hk, List.length_take, Nat.min_eq_left h]; exact Nat.le_refl _)]; simp
  · rw [List.drop_of_length_le (by rw [cellsOf_len hk]; exact Nat.mul_le_mul_right k (by omega)), List.drop_of_length_le (by omega)]; rfl
theorem cellsOf_take (hk : ∀ x, (enc x).length = k) (l : List α) (i : Nat) : (cellsOf enc l).take (i * k) = cellsOf enc (l.take i) := by
  by_cases h : i ≤ l.length
  · conv => lhs; rw [← List.take_append_drop i l, cellsOf_append]
    rw [List.take_append_of_le_length (by rw [cellsOf_len hk, List.length_take, Nat.min_eq_left h]; exact Nat.le_refl _)]
    rw [List.take_of_length_le (by rw [cellsOf_len hk, List.length_take, Nat.min_eq_left h]; exact Nat.le_refl _)]
  · rw [List.take_of_length_le (by rw [cellsOf_len hk]; exact Nat.mul_le_mul_right k (by omega)), List.take_of_length_le (by omega)]
theorem cellsOf_at (hk : ∀ x, (enc x).length = k) (l : List α) (i : Nat) (hi : i < l.length) (j : Nat) (hj : j < k) : (cellsOf enc l)[i * k + j]? = (enc l[i])[j]? := by
  rw [← List.getElem?_drop, cellsOf_drop hk, ← List.getElem_cons_drop hi, cellsOf_cons, List.getElem?_append_left (by rw [hk]; exact hj)]
theorem cellsOf_all1 (h1 : ∀ x, ∀ v ∈ enc x, v.oneCell' = true) (l : List α) : ∀ v ∈ cellsOf enc l, v.oneCell' = true := by
  intro v hv
  simp only [cellsOf, List.mem_flatMap] at hv
  obtain ⟨x, _, hx⟩ := hv
  exact h1 x v hx
/-- the cells of block g from place o on are cs -/
def RowC (w : World) (g o : Nat) (cs : List Value) : Prop := ∀ j u, cs[j]? = some u → w.cell? ⟨g, o + j, none⟩ = some u
theorem RowC.below {w w' : World} {B g o : Nat} {cs : List Value} (h : RowC w g o cs) (hb : Below B w w') (hg : g < B) : RowC w' g o cs := fun j u hj => (hb.cell (p := ⟨g, o + j, none⟩) hg).trans (h j u hj)
theorem RowC.at {w : World} {g o : Nat} {l : List α} (hk : ∀ x, (enc x).length = k) (h : RowC w g o (cellsOf enc l)) {i : Nat} (hi : i < l.length) : RowC w g (o + i * k) (enc l[i]) := fun j u hj => by
  have hj' : j < k := by
    have := (List.getElem?_eq_some_iff.1 hj).1; rwa [hk] at this
  rw [Nat.add_assoc]; exact h _ u (by rw [cellsOf_at hk l i hi j hj']; exact hj)
theorem RowC.of_blk {w : World} {g : Nat} {t : TypeId} {cs : Array Value} (h : Blk w g t cs) : RowC w g 0 cs.toList := fun j u hj => by
  rw [Nat.zero_add, h.cell j]; simpa using hj
theorem RowC.drewN {w : World} {g o : Nat} {cs : List Value} (h : RowC w g o cs) (n : Nat) : RowC (w.drewN n) g o cs := h
theorem RowC.lt {w : World} {g o : Nat} {cs : List Value} (h : RowC w g o cs) (hp : 0 < cs.length) : g < w.heap.size := World.block_lt_of_cell? w ⟨g, o + 0, none⟩ (h 0 _ (List.getElem?_eq_getElem hp))
/-- a slice (A, l.length, c) that reads as l, its cells below block B -/
structure RowIn (enc : α → List Value) (k : Nat) (w : World) (B : Nat) (A : Option Addr) (c : Nat) (l : List α) : Prop where
  le : l.length ≤ c
  max : c ≤ maxLen
  cells : l ≠ [] → ∃ g o, A = some ⟨g, o, none⟩ ∧ g < B ∧ RowC w g o (cellsOf enc l)
section
variable {w w' : World} {B B' : Nat} {A : Option Addr} {c : Nat} {l : List α}
theorem RowIn.below (h : RowIn enc k w B A c l) (hb : Below B w w') : RowIn enc k w' B A c l :=
  ⟨h.le, h.max, fun hn => let ⟨g, o, e, hg, hc⟩ := h.cells hn; ⟨g, o, e, hg, hc.below hb hg⟩⟩
theorem RowIn.more (h : RowIn enc k w B A c l) (hB : B ≤ B') : RowIn enc k w B' A c l :=
  ⟨h.le, h.max, fun hn => let ⟨g, o, e, hg, hc⟩ := h.cells hn; ⟨g, o, e, Nat.lt_of_lt_of_le hg hB, hc⟩⟩
theorem RowIn.drewN (h : RowIn enc k w B A c l) (n : Nat) : RowIn enc k (w.drewN n) B A c l := ⟨h.le, h.max, h.cells⟩
theorem RowIn.at (h : RowIn enc k w B A c l) (hk : ∀ x, (enc x).length = k) {i : Nat} (hi : i < l.length) : ∃ g o, A = some ⟨g, o, none⟩ ∧ g < B ∧ RowC w g (o + i * k) (enc l[i]) := by
  obtain ⟨g, o, e, hg, hc⟩ := h.cells (by intro e; subst e; simp at hi)
  exact ⟨g, o, e, hg, hc.at hk hi⟩
theorem RowIn.reads (h : RowIn enc k w B A c l) (hk : ∀ x, (enc x).length = k) : Reads w B k A l.length (cellsOf enc l) :=
  ⟨cellsOf_len hk l, fun hn => by
    obtain ⟨g, o, e, hg, hc⟩ := h.cells (by intro e; subst e; simp at hn)
    refine ⟨_, e, hg, fun j u hj => ?_⟩
    have hadd : (⟨g, o, none⟩ : Addr).add j = ⟨g, o + j, none⟩ := by unfold Addr.add; split <;> simp_all
    rw [hadd]; exact hc j u hj⟩
theorem RowIn.nil {c : Nat} (hc : c ≤ maxLen) : RowIn enc k w B A c [] := ⟨Nat.zero_le _, hc, fun h => absurd rfl h⟩
theorem RowIn.of_own {base : Nat} {e : TypeId} {v : Value} (hk : ∀ x, (enc x).length = k) (h : w.ownsRow base e k v l.length (cellsOf enc l)) : ∃ A c, v = .slice A l.length c ∧ RowIn enc k w w.heap.size A c l := by
  rcases h.2 with ⟨rfl, hn⟩ | ⟨g, cap, cur, rfl, hb, hh, hn, hm, hs, ht⟩
  · have : l = [] := List.eq_nil_of_length_eq_zero hn
    subst this
    exact ⟨none, 0, rfl, RowIn.nil (Nat.zero_le _)⟩
  · refine ⟨_, cap, rfl, hn, hm, fun _ => ⟨g, 0, rfl, ?_, fun j u hj => ?_⟩⟩
    · rcases Nat.lt_or_ge g w.heap.size with hlt | hge
      · exact hlt
      · rw [Array.getElem?_eq_none hge] at hh; cases hh
    · have hj' : j < l.length * k := by
        have := (List.getElem?_eq_some_iff.1 hj).1; rwa [cellsOf_len hk] at this
      rw [Nat.zero_add, cell_of_row w g j cur e (0, 0) hh, ← Array.getElem?_toList, ← hj, ← ht, List.getElem?_take_of_lt hj']
theorem RowIn.take (h : RowIn enc k w B A c l) (hk : ∀ x, (enc x).length = k) (i : Nat) : RowIn enc k w B A c (l.take i) :=
  ⟨by have := h.le; rw [List.length_take]; omega, h.max, fun hn => by
    obtain ⟨g, o, e, hg, hc⟩ := h.cells (by intro e; subst e; simp at hn)
    refine ⟨g, o, e, hg, fun j u hj => hc j u ?_⟩
    rw [← cellsOf_take hk] at hj
    have hj' := (List.getElem?_eq_some_iff.1 hj).1
    rw [List.length_take] at hj'
    rwa [List.getElem?_take_of_lt (by omega)] at hj⟩
/-- the address behind a cut from i on -/
def cutA (k c i : Nat) (A : Option Addr) : Option Addr := if c = i then A else A.map (·.add (i * k))
theorem RowIn.drop (h : RowIn enc k w B A c l) (hk : ∀ x, (enc x).length = k) (i : Nat) (hi : i ≤ l.length) : RowIn enc k w B (cutA k c i A) (c - i) (l.drop i) :=
  ⟨by have := h.le; rw [List.length_drop]; omega, by have := h.max; omega, fun hn => by
    have hlt : i < l.length := by
      rcases Nat.lt_or_ge i l.length with h1 | h1
      · exact h1
      · rw [List.drop_of_length_le h1] at hn; exact absurd rfl hn
    obtain ⟨g, o, rfl, hg, hc⟩ := h.cells (by intro e; subst e; simp at hlt)
    have hne : c ≠ i := by have := h.le; omega
    have hadd : (⟨g, o, none⟩ : Addr).add (i * k) = ⟨g, o + i * k, none⟩ := by unfold Addr.add; split <;> simp_all
    refine ⟨g, o + i * k, by unfold cutA; rw [if_neg hne]; simp [hadd], hg, fun j u hj => ?_⟩
    rw [Nat.add_assoc]
    refine hc _ u ?_
    rw [← cellsOf_drop hk, List.getElem?_drop] at hj; exact hj⟩
end
section
variable {P : Program} {t e : TypeId} (T : RowTy P t e enc k)
include T
theorem RowTy.sizeOf (w : World) : (Go.sizeOf e).run P w = .ok k w := by
  have h := T.size
  cases hq : P.info? e with
  | none => simp [hq] at h
  | some i => have hz : i.size = k := by simpa [hq] using h
              simp [Go.sizeOf, typeInfo, hq, hz]
theorem RowTy.load (w : World) (g o : Nat) (x : α) (h : RowC w g o (enc x)) : (loadVar e ⟨g, o, none⟩).run P w = .ok (.agg (enc x).toArray) w := by
  have hl := run_loadCellsFrom_list P w ⟨g, o, none⟩ (enc x) k (T.len x) (fun j v hv => by
    have hadd : (⟨g, o, none⟩ : Addr).add j = ⟨g, o + j, none⟩ := by unfold Addr.add; split <;> simp_all
    rw [hadd]; exact h j v hv)
  simp [loadVar, T.agg, T.sizeOf, loadCells, hl]
theorem RowTy.wpList_load {ops : Array Oper} {rest : List Oper} {o : Oper} {a : Act} {w : World} {Q : Exit → Act → World → Prop} (hw : Region.wanted o (yielded ops a.tmps) = true) (x : Operand) (ho : o.op = .load e x)
    (g off : Nat) (hx : a.eval x = .pointer (some ⟨g, off, none⟩)) (y : α) (hg : RowC w g off (enc y))
    (h : wpList P ops Q rest (a.put o.dst (.agg (enc y).toArray)) w) : wpList P ops Q (o :: rest) a w :=
  wpList_step fun _ hK => by
    rw [if_pos hw]
    unfold Oper.wp execOp
    simp only [ho, hx, Instr.loadAt, Instr.sureAddr, Sem.run_bind, Sem.run_pure, Result.andThen_ok, T.load w g off y hg]
    exact hK _ _ h
theorem RowTy.wpQuiet_load {ops : Array Oper} {C : World → Prop} {Q : Act → Prop} {a : Act} {rest : List Oper} {o : Oper} (hw : Region.wanted o (yielded ops a.tmps) = true) (x : Operand) (ho : o.op = .load e x)
    (g off : Nat) (hx : a.eval x = .pointer (some ⟨g, off, none⟩)) (y : α) (hg : ∀ w, C w → RowC w g off (enc y))
    (h : wpQuiet P ops C Q rest (a.put o.dst (.agg (enc y).toArray))) : wpQuiet P ops C Q (o :: rest) a :=
  wpQuiet_step fun K hK => by
    rw [if_pos hw]
    refine ⟨.agg (enc y).toArray, fun w hC => ?_, hK _ h⟩
    unfold Oper.quietAt execOp
    simp only [ho, hx, Instr.loadAt, Instr.sureAddr, Sem.run_bind, Sem.run_pure, Result.andThen_ok, T.load w g off y (hg w hC)]
    exact ⟨rfl, rfl⟩
theorem RowTy.splice_set (l : List α) (i : Nat) (hi : i < l.length) (x : α) : (cellsOf enc l).take (i * k) ++ enc x ++ (cellsOf enc l).drop (i * k + k) = cellsOf enc (l.set i x) := by
  rw [show i * k + k = (i + 1) * k by rw [Nat.add_mul, Nat.one_mul], cellsOf_take T.len, cellsOf_drop T.len, List.set_eq_take_append_cons_drop, if_pos hi, cellsOf_append, cellsOf_cons, List.append_assoc]
theorem RowTy.splice_copy (l m : List α) (i : Nat) : (cellsOf enc l).take (i * k) ++ cellsOf enc m ++ (cellsOf enc l).drop (i * k + m.length * k) = cellsOf enc (l.take i ++ m ++ l.drop (i + m.length)) := by
  rw [← Nat.add_mul, cellsOf_take T.len, cellsOf_drop T.len, cellsOf_append, cellsOf_append]
/-- a store of one element into a block of such elements -/
theorem RowTy.wpList_store {ops : Array Oper} {rest : List Oper} {o : Oper} {a : Act} {w : World} {Q : Exit → Act → World → Prop} (hgd : o.guard = none) (x y : Operand) (ho : o.op = .store e x y)
    (hd : o.dst = none) (g i : Nat) (v : α) (hx : a.eval x = .pointer (some ⟨g, i * k, none⟩)) (hy : a.eval y = .agg (enc v).toArray) (te : TypeId) (l : List α) (hg : Blk w g te (cellsOf enc l).toArray) (hi : i < l.length)
    (h : ∀ w', Only [g] w w' → Blk w' g te (cellsOf enc (l.set i v)).toArray → wpList P ops Q rest a w') : wpList P ops Q (o :: rest) a w :=
  wpList_plain hgd fun _ hK => by
    have hfit : (i + 1) * k ≤ l.length * k := Nat.mul_le_mul_right k hi
    have hst := run_storeCells_at P g (i * k) te (enc v) 0 _ w hg (by rw [T.len, Nat.add_zero, List.size_toArray, cellsOf_len T.len]; rw [Nat.add_mul, Nat.one_mul] at hfit; exact hfit) (T.one v)
    rw [Nat.add_zero, T.len] at hst
    have hs : (cellsOf enc l).toArray.toList = cellsOf enc l := by simp
    rw [hs, T.splice_set l i hi v] at hst
    have hrun : (storeVar e ⟨g, i * k, none⟩ (.agg (enc v).toArray)).run P w = .ok () (w.setRow g (cellsOf enc (l.set i v)).toArray) := by
      simp [storeVar, T.sizeOf, Value.cells, T.len, hst]
    unfold Oper.wp execOp
    simp only [ho, hx, hy, Instr.storeAt, Instr.sureAddr, Sem.run_bind, Sem.run_pure, Result.andThen_ok, hrun]
    rw [Oper.upon_skip, hd]
    exact hK _ _ (h _ (only_setRow hg _).1 (only_setRow hg _).2)
theorem RowTy.run_copy (w : World) (sT ty : TypeId) (dp : Option Addr) (dLen dCap : Nat) (B : Nat) (A : Option Addr) (sCap : Nat) (m : List α) (hm : RowIn enc k w B A sCap m) (g i : Nat) (hd : m ≠ [] → dLen ≠ 0 → dp = some ⟨g, i * k, none⟩)
    (te : TypeId) (l : List α) (hg : Blk w g te (cellsOf enc l).toArray) (hi : i + min m.length dLen ≤ l.length) :
    ∃ w' n, (Builtin.copy_ #[t, sT] ty #[.slice dp dLen dCap, .slice A m.length sCap]).run P w = .ok (goInt n) w' ∧ Only [g] w w' ∧ Blk w' g te (cellsOf enc (l.take i ++ m.take dLen ++ l.drop (i + min m.length dLen))).toArray := by
  rcases Nat.eq_zero_or_pos (min m.length dLen) with h0 | h0
  · have e : m.take dLen = [] := by
      rcases Nat.min_eq_zero_iff.1 h0 with h | h
      · rw [List.eq_nil_of_length_eq_zero h]; simp
      · rw [h]; simp
    refine ⟨w, 0, ?_, Only.refl _ _, ?_⟩
    · have hl : ∀ a : Addr, (loadCells a 0).run P w = .ok #[] w := fun a => rfl
      have hmin : Nat.min m.length dLen = 0 := h0
      cases A <;> cases dp <;> simp [Builtin.copy_, run_underlying T.slice, Builtin.lenOf, Builtin.firstCells, T.sizeOf, hmin, hl, storeCells]
    · rw [e, h0, Nat.add_zero, List.append_nil, List.take_append_drop]; exact hg
  · have hm0 : m ≠ [] := by intro e; subst e; simp at h0
    have hd0 : dLen ≠ 0 := by omega
    obtain rfl := hd hm0 hd0
    obtain ⟨g', o', rfl, _, hc⟩ := hm.cells hm0
    have hlen : (m.take dLen).length = min m.length dLen := by rw [List.length_take, Nat.min_comm]
    have hl := run_loadCells_list (P := P) w ⟨g', o', none⟩ (cellsOf enc (m.take dLen)) (fun j v hv => by
      have hadd : (⟨g', o', none⟩ : Addr).add j = ⟨g', o' + j, none⟩ := by unfold Addr.add; split <;> simp_all
      rw [hadd]
      refine hc j v ?_
      rw [← cellsOf_take T.len] at hv
      have hj' := (List.getElem?_eq_some_iff.1 hv).1
      rw [List.length_take] at hj'
      rwa [List.getElem?_take_of_lt (by omega)] at hv)
    rw [cellsOf_len T.len, hlen] at hl
    have hfit : (i + min m.length dLen) * k ≤ l.length * k := Nat.mul_le_mul_right k hi
    have hst := run_storeCells_at P g (i * k) te (cellsOf enc (m.take dLen)) 0 _ w hg (by rw [cellsOf_len T.len, hlen, Nat.add_zero, List.size_toArray, cellsOf_len T.len, ← Nat.add_mul]; exact hfit) (cellsOf_all1 T.one _)
    have hs : (cellsOf enc l).toArray.toList = cellsOf enc l := by simp
    rw [Nat.add_zero, cellsOf_len T.len, hs, T.splice_copy l (m.take dLen) i, hlen] at hst
    refine ⟨_, ((min m.length dLen : Nat) : Int), ?_, (only_setRow hg _).1, (only_setRow hg _).2⟩
    simp only [Builtin.copy_, List.getElem?_toArray, List.getElem?_cons_zero, List.getElem?_cons_succ, Sem.run_bind, run_underlying T.slice, Result.andThen_ok, Builtin.lenOf, Sem.run_pure, T.sizeOf, Builtin.firstCells]
    have hmin : Nat.min m.length dLen = min m.length dLen := rfl
    rw [hmin, hl]
    simp only [Result.andThen_ok, hst]
/-- a copy of elements into a block of such elements -/
theorem RowTy.wpList_copy {ops : Array Oper} {rest : List Oper} {o : Oper} {a : Act} {w : World} {Q : Exit → Act → World → Prop} (hgd : o.guard = none) (d s : Operand) (sT : TypeId)
    (ho : o.op = .call { callee := .builtin .copy, args := #[d, s], argTypes := #[t, sT] })
    (dp : Option Addr) (dLen dCap : Nat) (B : Nat) (A : Option Addr) (sCap : Nat) (m : List α) (hdv : a.eval d = .slice dp dLen dCap) (hsv : a.eval s = .slice A m.length sCap) (hm : RowIn enc k w B A sCap m) (g i : Nat) (hd : m ≠ [] → dLen ≠ 0 → dp = some ⟨g, i * k, none⟩)
    (te : TypeId) (l : List α) (hg : Blk w g te (cellsOf enc l).toArray) (hi : i + min m.length dLen ≤ l.length)
    (h : ∀ w' n, Only [g] w w' → Blk w' g te (cellsOf enc (l.take i ++ m.take dLen ++ l.drop (i + min m.length dLen))).toArray → wpList P ops Q rest (a.put o.dst (goInt n)) w') : wpList P ops Q (o :: rest) a w := by
  refine wpList_plain hgd fun K hK => ?_
  obtain ⟨w', n, hrun, ho', hb'⟩ := T.run_copy w sT o.type dp dLen dCap B A sCap m hm g i hd te l hg hi
  unfold Oper.wp
  simp [execOp, ho, resolve, invoke, builtin, hdv, hsv, hrun, Result.andThen]
  exact hK _ _ (h w' n ho' hb')
theorem RowTy.step_copy {ops : Array Oper} {o : Oper} {a : Act} {w : World} {K : Act → World → Prop} {Q : Exit → Act → World → Prop} {E : Prop} (hgd : o.guard = none) (d s : Operand) (sT : TypeId)
    (ho : o.op = .call { callee := .builtin .copy, args := #[d, s], argTypes := #[t, sT] })
    (dp : Option Addr) (dLen dCap : Nat) (B : Nat) (A : Option Addr) (sCap : Nat) (m : List α) (hdv : a.eval d = .slice dp dLen dCap) (hsv : a.eval s = .slice A m.length sCap) (hm : RowIn enc k w B A sCap m) (g i : Nat) (hd : m ≠ [] → dLen ≠ 0 → dp = some ⟨g, i * k, none⟩)
    (te : TypeId) (l : List α) (hg : Blk w g te (cellsOf enc l).toArray) (hi : i + min m.length dLen ≤ l.length)
    (h : ∀ w' n, Only [g] w w' → Blk w' g te (cellsOf enc (l.take i ++ m.take dLen ++ l.drop (i + min m.length dLen))).toArray → K (a.put o.dst (goInt n)) w') :
    if Region.wanted o (yielded ops a.tmps) = true then Oper.wp P o a w K Q else E := by
  have hw : Region.wanted o (yielded ops a.tmps) = true := by simp [Region.wanted, hgd]
  rw [if_pos hw]
  obtain ⟨w', n, hrun, ho', hb'⟩ := T.run_copy w sT o.type dp dLen dCap B A sCap m hm g i hd te l hg hi
  unfold Oper.wp
  simp [execOp, ho, resolve, invoke, builtin, hdv, hsv, hrun, Result.andThen]
  exact h w' n ho' hb'
theorem RowTy.fill (l : List α) (cells : Array Value) (hs : cells.size = l.length * k) :
    Instr.fill (fun i => some (i * k, k)) cells (((l.map fun x => Value.agg (enc x).toArray).zipIdx 0).map fun x => (x.2, x.1)) = some (cellsOf enc l).toArray := by
  obtain ⟨r, hr, hz, hg⟩ := Great.fill_dense T.pos (l.map fun x => Value.agg (enc x).toArray) 0 cells (fun v hv => by
    obtain ⟨x, _, rfl⟩ := List.mem_map.1 hv
    simp [Value.cells, T.len]) (by simp [hs])
  rw [hr]
  congr 1
  apply Array.ext_getElem?
  intro j
  rw [hg j]
  by_cases hj : j < l.length * k
  · have hq : j / k < l.length := (Nat.div_lt_iff_lt_mul T.pos).2 hj
    rw [if_pos (by simpa using hj), Nat.sub_zero, List.getElem?_map, List.getElem?_eq_getElem hq]
    have e : j = j / k * k + j % k := (Nat.div_add_mod' j k).symm
    have h2 : (cellsOf enc l).toArray[j]? = (enc l[j / k])[j % k]? := by
      rw [List.getElem?_toArray]
      conv => lhs; rw [e]
      exact cellsOf_at T.len l (j / k) hq (j % k) (Nat.mod_lt _ T.pos)
    rw [h2]
    simp [Value.cells]
  · rw [if_neg (by simpa using hj), Array.getElem?_eq_none (by omega), Array.getElem?_eq_none (by rw [List.size_toArray, cellsOf_len T.len]; omega)]
/-- a literal of elements -/
theorem RowTy.wpList_build {ops : Array Oper} {rest : List Oper} {o : Oper} {a : Act} {w : World} {Q : Exit → Act → World → Prop} (hgd : o.guard = none) (hz : ((P.info? e).bind (·.zero)).isSome = true)
    (len : Nat) (parts : Array (Nat × Operand)) (ho : o.op = .buildSlice t len parts) (l : List α) (hl : l.length = len) (h0 : 0 < len) (hsmall : len * k ≤ 2 ^ 24)
    (hp : (parts.map fun (i, x) => (i, a.eval x)).toList = ((l.map fun x => Value.agg (enc x).toArray).zipIdx 0).map fun x => (x.2, x.1))
    (h : wpList P ops Q rest (a.put o.dst (.slice (some ⟨w.heap.size, 0, none⟩) len len)) (w.alloc (.cells (cellsOf enc l).toArray e))) : wpList P ops Q (o :: rest) a w := by
  have hs := T.size
  cases hie : P.info? e with
  | none => simp [hie] at hs
  | some ie =>
    simp only [hie, Option.map_some, Option.some.injEq, Option.bind_some] at hs hz
    obtain ⟨z, hzz⟩ := Option.isSome_iff_exists.1 hz
    refine wpList_buildSlice hgd t e len parts ho _ ie z T.slice hie hzz (by rw [hs]; omega) (by rw [hs]; have := Nat.mul_pos h0 T.pos; omega) ?_ h
    rw [hp, hs]
    exact T.fill l _ (by simp [hl])
theorem RowTy.wpList_append1 {ops : Array Oper} {rest : List Oper} {o : Oper} {a : Act} {w : World} {Q : Exit → Act → World → Prop} (hgd : o.guard = none) (hz : ((P.info? e).bind (·.zero)).map (·.cells.size) = some k) (bytes : Nat) (hb : (P.info? e).map (·.bytes) = some bytes) (hby : bytes ≤ 100000) (s x : Operand)
    (ho : o.op = .call { callee := .builtin .append, args := #[s, x], argTypes := #[t, t] })
    (base : Nat) (v : Value) (l : List α) (hs : a.eval s = v) (hown : w.ownsRow base e k v l.length (cellsOf enc l))
    (g c : Nat) (y : α) (hx : a.eval x = .slice (some ⟨g, 0, none⟩) 1 c) (hg : Blk w g e (cellsOf enc [y]).toArray) (hn : l.length ≤ 1000000) (hbase : base ≤ w.heap.size)
    (h : ∀ v' w', w'.ownsRow base e k v' (l ++ [y]).length (cellsOf enc (l ++ [y])) → w.grownBy w' v.ownBlock → wpList P ops Q rest (a.put o.dst v') w') : wpList P ops Q (o :: rest) a w := by
  have hsz := T.size
  cases hie : P.info? e with
  | none => simp [hie] at hsz
  | some ie =>
    simp only [hie, Option.map_some, Option.some.injEq, Option.bind_some, Option.map_eq_some_iff] at hsz hz hb
    obtain ⟨z, hz1, hz2⟩ := hz
    refine wpList_append_any w hgd s x t ho base e ie z k bytes T.slice hie hz1 hsz hb hz2 T.pos v l.length (cellsOf enc l) hs hown (g + 1) (some ⟨g, 0, none⟩) 1 c (cellsOf enc [y]) hx ?_ (cellsOf_all1 T.one _) ?_ ?_ hbase ?_
    · refine ⟨by rw [cellsOf_len T.len]; rfl, fun _ => ⟨_, rfl, by simp, fun j u hj => ?_⟩⟩
      have hadd : (⟨g, 0, none⟩ : Addr).add j = ⟨g, 0 + j, none⟩ := by unfold Addr.add; split <;> simp_all
      rw [hadd]
      exact RowC.of_blk hg j u (by simpa using hj)
    · unfold maxLen; omega
    · have : (l.length + 1) * bytes ≤ 1000001 * 100000 := Nat.mul_le_mul (by omega) hby
      omega
    · intro v' w' h2 h3 _
      exact h v' w' (by rw [List.length_append, cellsOf_append]; exact h2) h3
theorem RowTy.made (w : World) (z : α) (zv : Value) (bytes : Nat) (hz : (P.info? e).map (fun i => (i.zero, i.bytes)) = some (some zv, bytes)) (hzc : zv.cells = (enc z).toArray) (hb : bytes ≤ 100000) (k1 k2 : IntKind) (n : Nat) (hn : n ≤ 1000000) :
    (Instr.makeSlice t (.int k1 (n : Int)) (.int k2 (n : Int))).run P w = .ok (.slice (some ⟨w.heap.size, 0, none⟩) n n) (w.alloc (.cells (cellsOf enc (List.replicate n z)).toArray e)) := by
  have hsz := T.size
  cases hie : P.info? e with
  | none => simp [hie] at hsz
  | some ie =>
    simp only [hie, Option.map_some, Option.some.injEq, Prod.mk.injEq] at hsz hz
    have hbn : ie.bytes * n ≤ 100000 * 1000000 := Nat.mul_le_mul (by omega) hn
    rw [run_make_rowN (P := P) t e ie zv T.slice hie hz.1 k1 k2 n n (Nat.le_refl _) (by omega) (by omega) w, hzc, hsz]
    congr 3
    apply Array.ext_getElem?
    intro j
    by_cases hj : j < n * k
    · have hq : j / k < n := (Nat.div_lt_iff_lt_mul T.pos).2 hj
      have e : j = j / k * k + j % k := (Nat.div_add_mod' j k).symm
      have hm := Nat.mod_lt j T.pos
      have h2 : (cellsOf enc (List.replicate n z)).toArray[j]? = (enc z)[j % k]? := by
        rw [List.getElem?_toArray]
        conv => lhs; rw [e]
        rw [cellsOf_at T.len _ (j / k) (by simpa using hq) (j % k) hm, List.getElem_replicate]
      rw [h2]
      have hlz : j % k < (enc z).length := by rw [T.len]; exact hm
      rw [List.getElem?_eq_getElem hlz]
      simp [madeCells, hj, T.len, List.getElem?_eq_getElem hlz]
    · rw [Array.getElem?_eq_none (by rw [size_madeCells]; omega), Array.getElem?_eq_none (by rw [List.size_toArray, cellsOf_len T.len, List.length_replicate]; omega)]
theorem RowTy.slice_to (w : World) (A : Option Addr) (n c i : Nat) (hi : i ≤ c) : (Instr.slice t (.slice A n c) none (some (.int .i64 (i : Int))) none).run P w = .ok (.slice A i c) w := by
  have he : P.elem t = e := by simp [Program.elem, T.slice]
  rw [run_slice_h w t A n c (by rw [he]; exact T.slice) .i64 i (by omega) (by omega), he, T.sizeOf]
  simp only [Result.andThen_ok, sliced, Int.toNat_natCast, Nat.zero_mul, Nat.sub_zero]
  congr 2
  split
  · rfl
  · cases A <;> simp [Addr.add]
theorem RowTy.slice_from (w : World) (A : Option Addr) (n c i : Nat) (hi : i ≤ n) : (Instr.slice t (.slice A n c) (some (.int .i64 (i : Int))) none none).run P w = .ok (.slice (cutA k c i A) (n - i) (c - i)) w := by
  have he : P.elem t = e := by simp [Program.elem, T.slice]
  rw [run_slice_l w t A n c (by rw [he]; exact T.slice) .i64 i (by omega) (by omega), he, T.sizeOf]
  simp only [Result.andThen_ok, sliced, Int.toNat_natCast, cutA]
end
end
end Go.Proofs.Ytimhophelecmjaa
/- A parameter that is a slice of integers: nil, or a row: read as a list. Over any program. -/
namespace Go.Proofs.Ytimhophelecmjaa
open Go.RowKit Go.ChangeShapes Go.WideShapes
/-- the slice (A, n) that came in reads as zs, each fitting its kind -/
def InRow (k : IntKind) (w : World) (A : Option Addr) (n : Nat) (zs : List Int) : Prop :=
  n ≤ maxLen ∧ zs.length = n ∧ Reads w w.heap.size 1 A n (zs.map (.int k)) ∧ ∀ z ∈ zs, (Lit.int k z).wf = true
section
variable {H : Type} {enc : TypeId × Value → H} {P : Program} {w : World} {base : Nat} {spare : Nat → Bool} {held : Bool} {t e : TypeId} {k : IntKind} {v : Value} {d : DataW H} {ps : List MemPlace}
theorem open_row {r : Reach} {b0 : Nat} (ht : P.underlying t = some (.slice e)) (he : P.underlying e = some (.int k)) (hc : P.cellsOf e = 1)
    (hval : Value.okWide P w r b0 t v) (hd : DataW.Trod enc P w base spare held t v d ps) : ∃ A n cap zs, v = .slice A n cap ∧ InRow k w A n zs := by
  obtain ⟨A, n, cap, rfl⟩ := okWide_slice ht hval
  refine ⟨A, n, cap, ?_⟩
  obtain ⟨fuel, hf⟩ := hd
  rcases open_ints ht he hc hf with ⟨hcs, _⟩ | ⟨x, l, c, zs, hcs, _, hl, hm, hz, _, hcell, hwz⟩
  · simp [Value.cells] at hcs
    obtain ⟨rfl, rfl, rfl⟩ := hcs
    exact ⟨[], rfl, by simp [maxLen], rfl, Reads.none_, fun z hz => by cases hz⟩
  · simp [Value.cells] at hcs
    obtain ⟨rfl, rfl, rfl⟩ := hcs
    have hn : n ≤ zs.length := by rw [hz]; split <;> omega
    have hlen : (zs.take n).length = n := by rw [List.length_take]; omega
    refine ⟨zs.take n, rfl, by omega, hlen, ⟨by rw [List.length_map, hlen, Nat.mul_one], fun h0 => ⟨x, rfl, ?_, fun j u hu => ?_⟩⟩, fun z hz' => hwz z (List.mem_of_mem_take hz')⟩
    · have h1 := World.block_lt_of_cell? w _ (hcell 0 (by omega))
      rwa [block_of_add] at h1
    · have hj : j < n := by
        rcases Nat.lt_or_ge j n with h | h
        · exact h
        · rw [List.getElem?_eq_none (by rw [List.length_map, hlen]; exact h)] at hu; cases hu
      rw [hcell j (by omega), ← hu, List.getElem?_map, List.getElem?_take_of_lt hj, List.getD_eq_getElem?_getD, List.getElem?_eq_getElem (by omega)]
      rfl
theorem trod_below (h : DataW.Trod enc P w base spare held t v d ps) : ∀ x ∈ ps, x.block < w.heap.size := by
  obtain ⟨m, hm⟩ := h
  exact DataW.trod_lt m _ _ _ hm
end
end Go.Proofs.Ytimhophelecmjaa
/- A parameter that is a slice of keys: read as a list of keys. Over any program. -/
namespace Go.Proofs.Ytimhophelecmjaa
open Go.RowKit Go.ChangeShapes Go.WideShapes
section
variable {H : Type} {enc : TypeId × Value → H} {P : Program} {w : World} {base : Nat} {spare : Nat → Bool} {held : Bool} {t tk e : TypeId} {v : Value} {d : DataW H} {ps : List MemPlace}
theorem trod_key {fuel : Nat} {cs : List Value} {x : DataW H × List MemPlace} (ht : P.underlying tk = some (.array 32 e)) (he : P.underlying e = some (.int .u8)) (hc : P.cellsOf e = 1) (hl : cs.length = 32)
    (h : DataW.trod enc P w base spare held fuel tk cs = some x) : ∃ k : K32, cs = encK k := by
  obtain ⟨xs, m, rfl, hx, hl', hxl, hi⟩ := DataW.trod_array ht h
  have hel : ∀ i, i < 32 → ∃ z : Int, cs[i]? = some (.int .u8 z) ∧ 0 ≤ z ∧ z < 256 := by
    intro i hlt
    have h1 := hi i hlt
    rw [hc, Nat.mul_one, List.getElem?_eq_getElem (by omega)] at h1
    obtain ⟨z, e1, e2, e3⟩ := DataW.trod_int he h1
    have h2 : (cs.drop i)[0]? = some (.int .u8 z) := by
      have := congrArg (fun q : List Value => q[0]?) e1
      simpa [List.getElem?_take] using this
    refine ⟨z, by simpa using h2, ?_, ?_⟩
    · simp [Lit.wf, IntKind.min, IntKind.max, IntKind.signed, IntKind.bits] at e3; omega
    · simp [Lit.wf, IntKind.min, IntKind.max, IntKind.signed, IntKind.bits] at e3; omega
  refine ⟨⟨cs.map fun v => match v with | .int _ z => UInt8.ofNat z.toNat | _ => 0, by simp [hl]⟩, ?_⟩
  apply List.ext_getElem?
  intro i
  by_cases hlt : i < 32
  · obtain ⟨z, e1, z0, z1⟩ := hel i hlt
    rw [e1]
    simp [encK, bytesA, e1]
    omega
  · rw [List.getElem?_eq_none (by omega), List.getElem?_eq_none (by rw [encK_len]; omega)]
theorem open_keys {r : Reach} {b0 : Nat} (ht : P.underlying t = some (.slice tk)) (hk : P.underlying tk = some (.array 32 e)) (he : P.underlying e = some (.int .u8)) (hc : P.cellsOf e = 1) (hct : P.cellsOf tk = 32)
    (hval : Value.okWide P w r b0 t v) (hd : DataW.Trod enc P w base spare held t v d ps) : ∃ A c l, v = .slice A (l : List K32).length c ∧ RowIn encK 32 w w.heap.size A c l := by
  obtain ⟨A, n, cap, rfl⟩ := okWide_slice ht hval
  obtain ⟨fuel, hf⟩ := hd
  rcases Deep.open_slice ht hf with ⟨hcs, _⟩ | ⟨a, len, c, m, n', D, Pl, hcs, _, hl, hm, hmm, _, hx⟩
  · simp [Value.cells] at hcs
    obtain ⟨rfl, rfl, rfl⟩ := hcs
    exact ⟨none, 0, [], rfl, RowIn.nil (Nat.zero_le _)⟩
  · simp [Value.cells] at hcs
    obtain ⟨rfl, rfl, rfl⟩ := hcs
    have hlm : n ≤ m := by rw [hmm]; split <;> omega
    rw [hct] at hx
    obtain ⟨f, hf'⟩ := Deep.choose_lt (n := n) (p := fun i (k : K32) => w.cells? base (a.add (i * 32)) 32 = some (encK k)) (fun i hi => by
      obtain ⟨cs', h1, h2⟩ := hx i (by omega)
      obtain ⟨_, hlen, _⟩ := World.cells?_some h1
      obtain ⟨k, rfl⟩ := trod_key hk he hc hlen h2
      exact ⟨k, h1⟩)
    have hrow : ∀ j u, (cellsOf encK ((List.range n).map f))[j]? = some u → w.cell? (a.add j) = some u := by
      intro j u hj
      have hj' := (List.getElem?_eq_some_iff.1 hj).1
      rw [cellsOf_len encK_len, List.length_map, List.length_range] at hj'
      have hq : j / 32 < n := (Nat.div_lt_iff_lt_mul (by omega)).2 hj'
      have e : j = j / 32 * 32 + j % 32 := (Nat.div_add_mod' j 32).symm
      rw [e, cellsOf_at encK_len _ (j / 32) (by simpa using hq) (j % 32) (Nat.mod_lt _ (by omega))] at hj
      simp only [List.getElem_map, List.getElem_range] at hj
      have h3 := (World.cells?_some (hf' (j / 32) hq)).2.2 (j % 32) (Nat.mod_lt _ (by omega))
      rw [Deep.add_add, ← e] at h3
      rw [h3]
      simpa using hj
    refine ⟨some a, cap, (List.range n).map f, by simp, by simpa using hl, hm, fun hn => ?_⟩
    have hn0 : 0 < n := by
      rcases Nat.eq_zero_or_pos n with h0 | h0
      · subst h0; simp at hn
      · exact h0
    have hz : 0 < (cellsOf encK ((List.range n).map f)).length := by rw [cellsOf_len encK_len]; simp; omega
    have h0 := hrow 0 _ (List.getElem?_eq_getElem hz)
    obtain ⟨b, off, spot⟩ := a
    have hspot : spot = none := by simpa [Addr.add] using World.cell?_spot h0
    subst hspot
    refine ⟨b, off, rfl, ?_, fun j u hj => ?_⟩
    · have := World.block_lt_of_cell? w _ h0
      rwa [block_of_add] at this
    · have hadd : (⟨b, off, none⟩ : Addr).add j = ⟨b, off + j, none⟩ := by unfold Addr.add; split <;> simp_all
      rw [← hadd]; exact hrow j u hj
end
end Go.Proofs.Ytimhophelecmjaa
/- 'make([]T, n)' of one-cell elements: the run, and what the new row holds. Over any program. -/
namespace Go.Proofs.Ytimhophelecmjaa
open Go.RowKit
theorem run_make_one {P : Program} (t e : TypeId) (z : Value) (bytes : Nat) (ht : P.underlying t = some (.slice e)) (hi : (P.info? e).map (fun i => (i.zero, i.size, i.bytes)) = some (some z, 1, bytes)) (hz : z.cells = #[z]) (hb : bytes ≤ 64)
    (k1 k2 : IntKind) (n : Nat) (hn : n ≤ 1000000000) (w : World) : (Instr.makeSlice t (.int k1 (n : Int)) (.int k2 (n : Int))).run P w = .ok (.slice (some ⟨w.heap.size, 0, none⟩) n n) (w.alloc (.cells (madeCells #[z] n) e)) := by
  obtain ⟨i, hi0, hz0, hz1, hz2⟩ := info_parts hi
  have hbn : i.bytes * n ≤ 64 * 1000000000 := Nat.mul_le_mul (by omega) hn
  have h := run_make_rowN (P := P) t e i z ht hi0 hz0 k1 k2 n n (Nat.le_refl _) (by omega) (by omega) w
  rw [hz, hz1, Nat.mul_one] at h
  exact h
theorem made_get (z : Value) (n i : Nat) (h : i < n) : (madeCells #[z] n)[i]? = some z := by
  have e := toList_madeCells_one z n
  rw [← Array.getElem?_toList, e, List.getElem?_replicate, if_pos h]
end Go.Proofs.Ytimhophelecmjaa
/- A region that draws its order and whose calls make memory, but whose values hang on nothing new: one walk in the order of the text, over a class of worlds. Over any program. -/
namespace Go.Proofs.Ytimhophelecmjaa
open Go.RowKit
/-- the worlds behind w, of which what was there is as it was -/
def From (w w' : World) : Prop := Below w.heap.size w w'
theorem From.below {w w' : World} (h : From w w') : Below w.heap.size w w' := h
theorem From.call {w w1 w2 : World} (h : From w w1) (hb : Below w1.heap.size w1 w2) : From w w2 := Below.trans h (hb.mono (Below.size h))
theorem wp_region_from {P : Program} {id : Nat} {Q : Exit → Act → World → Prop} {a : Act} {w : World} {l : List Oper} (hm : P.follows .mixedOrders = true) (hB : Region.lexB .any l.toArray = true)
    (h : wpQuiet P l.toArray (From w) (fun a' => ∀ w', From w w' → Q .normal a' w') l a) : (Code.region id l.toArray true).wp P Q a w :=
  wp_region_quiet (C := From w) hm hB (show Below _ _ _ from (Below.refl _ _).drew) (by simpa using h)
section
variable {P : Program} {ops : Array Oper} {C : World → Prop} {Q : Act → Prop} {a : Act} {rest : List Oper}
/-- a guard: it fits at a load from the address in slot i alone -/
theorem at_qload {dst : Option Tmp} {ty ty0 : TypeId} {pos : String} {after : Array Edge} {gd : Option (Nat × Bool)} (i : Nat)
    (h : wpQuiet P ops C Q ({ dst := dst, op := .load ty (.tmp i), type := ty0, pos := pos, after := after, guard := gd } :: rest) a) :
    wpQuiet P ops C Q ({ dst := dst, op := .load ty (.tmp i), type := ty0, pos := pos, after := after, guard := gd } :: rest) a := h
theorem wpQuiet_load_row {o : Oper} (hw : Region.wanted o (yielded ops a.tmps) = true) (ty : TypeId) (x : Operand) (ho : o.op = .load ty x)
    (g : Nat) (hx : a.eval x = .pointer (some ⟨g, 0, none⟩)) (t : TypeId) (cs : Array Value) (d : TypeDesc) (hg : ∀ w, C w → Blk w g t cs)
    (hu : P.underlying ty = some d) (hd : (match d with | .struct _ | .array _ _ => true | _ => false) = true) (hi : (P.info? ty).map (·.size) = some cs.size)
    (h : wpQuiet P ops C Q rest (a.put o.dst (.agg cs))) : wpQuiet P ops C Q (o :: rest) a :=
  wpQuiet_step fun K hK => by
    rw [if_pos hw]
    refine ⟨.agg cs, fun w hC => ?_, hK _ h⟩
    unfold Oper.quietAt execOp
    simp only [ho, hx, Instr.loadAt, Instr.sureAddr, Sem.run_bind, Sem.run_pure, Result.andThen_ok, run_loadVar_row w g t ty cs (0, 0) d (hg w hC) hu hd hi]
    exact ⟨rfl, rfl⟩
/-- a guard: it fits at an '==' of the slots i and j alone -/
theorem at_qeql {dst : Option Tmp} {ty yt ty0 : TypeId} {pos : String} {after : Array Edge} {gd : Option (Nat × Bool)} (i j : Nat)
    (h : wpQuiet P ops C Q ({ dst := dst, op := .binOp .eql ty (.tmp i) (.tmp j) yt, type := ty0, pos := pos, after := after, guard := gd } :: rest) a) :
    wpQuiet P ops C Q ({ dst := dst, op := .binOp .eql ty (.tmp i) (.tmp j) yt, type := ty0, pos := pos, after := after, guard := gd } :: rest) a := h
theorem wpQuiet_eql_row {o : Oper} (hw : Region.wanted o (yielded ops a.tmps) = true) (ty yt : TypeId) (x y : Operand) (ho : o.op = .binOp .eql ty x y yt)
    (cx cy : Array Value) (hx : a.eval x = .agg cx) (hy : a.eval y = .agg cy) (hg : P.eqGuardType P.depth ty = false) (r : Bool) (he : ∀ V, (Op.equal ty (.agg cx) (.agg cy)).run P V = .ok r V)
    (h : wpQuiet P ops C Q rest (a.put o.dst (.bool r))) : wpQuiet P ops C Q (o :: rest) a :=
  wpQuiet_step fun K hK => by
    rw [if_pos hw]
    refine ⟨.bool r, fun w hC => ?_, hK _ h⟩
    unfold Oper.quietAt execOp
    simp only [ho, hx, hy]
    unfold eqGuard binOp
    simp [go_sem, hg, he]
end
end Go.Proofs.Ytimhophelecmjaa
/- '!=' of arrays in a quiet region, guarded or not; in a plain region, too. Over any program. -/
namespace Go.Proofs.Ytimhophelecmjaa
open Go.RowKit
section
variable {P : Program} {ops : Array Oper} {C : World → Prop} {Q : Act → Prop} {a : Act} {rest : List Oper}
theorem at_qneq {dst : Option Tmp} {ty yt ty0 : TypeId} {pos : String} {after : Array Edge} {gd : Option (Nat × Bool)} (i j : Nat)
    (h : wpQuiet P ops C Q ({ dst := dst, op := .binOp .neq ty (.tmp i) (.tmp j) yt, type := ty0, pos := pos, after := after, guard := gd } :: rest) a) :
    wpQuiet P ops C Q ({ dst := dst, op := .binOp .neq ty (.tmp i) (.tmp j) yt, type := ty0, pos := pos, after := after, guard := gd } :: rest) a := h
theorem wpQuiet_neq_row {o : Oper} (hw : Region.wanted o (yielded ops a.tmps) = true) (ty yt : TypeId) (x y : Operand) (ho : o.op = .binOp .neq ty x y yt)
    (cx cy : Array Value) (hx : a.eval x = .agg cx) (hy : a.eval y = .agg cy) (hg : P.eqGuardType P.depth ty = false) (r : Bool) (he : ∀ V, (Op.equal ty (.agg cx) (.agg cy)).run P V = .ok r V)
    (h : wpQuiet P ops C Q rest (a.put o.dst (.bool !r))) : wpQuiet P ops C Q (o :: rest) a :=
  wpQuiet_step fun K hK => by
    rw [if_pos hw]
    refine ⟨.bool !r, fun w hC => ?_, hK _ h⟩
    unfold Oper.quietAt execOp
    simp only [ho, hx, hy]
    unfold eqGuard binOp
    simp [go_sem, hg, he]
end
section
variable {P : Program} {ops : Array Oper} {rest : List Oper} {o : Oper} {a : Act} {w : World} {Q : Exit → Act → World → Prop}
theorem wpList_neq_rowg (hw : Region.wanted o (yielded ops a.tmps) = true) (ty yt : TypeId) (x y : Operand) (ho : o.op = .binOp .neq ty x y yt)
    (cx cy : Array Value) (hx : a.eval x = .agg cx) (hy : a.eval y = .agg cy) (hg : P.eqGuardType P.depth ty = false) (r : Bool) (he : ∀ V, (Op.equal ty (.agg cx) (.agg cy)).run P V = .ok r V)
    (h : wpList P ops Q rest (a.put o.dst (.bool !r)) w) : wpList P ops Q (o :: rest) a w :=
  wpList_step fun K hK => by
    rw [if_pos hw]
    have h' := hK _ _ h
    have hrun : (execOp a.eval o).run P w = .ok (.value (.bool !r)) w := by
      unfold execOp
      simp only [ho, hx, hy]
      unfold eqGuard binOp
      simp [go_sem, hg, he]
    unfold Oper.wp
    rw [hrun, Oper.upon_value]
    exact h'
theorem at_neqlg {dst : Option Tmp} {ty yt ty0 : TypeId} {pos : String} {after : Array Edge} {gd : Option (Nat × Bool)} (i j : Nat)
    (h : wpList P ops Q ({ dst := dst, op := .binOp .neq ty (.tmp i) (.tmp j) yt, type := ty0, pos := pos, after := after, guard := gd } :: rest) a w) :
    wpList P ops Q ({ dst := dst, op := .binOp .neq ty (.tmp i) (.tmp j) yt, type := ty0, pos := pos, after := after, guard := gd } :: rest) a w := h
end
end Go.Proofs.Ytimhophelecmjaa
/- A load of one cell in a quiet region. Over any program. -/
namespace Go.Proofs.Ytimhophelecmjaa
open Go.RowKit
theorem run_loadVar_one {P : Program} {ty : TypeId} (ha : ∀ w, (isAgg ty).run P w = .ok false w) {w : World} {p : Addr} {v : Value} (hc : w.cell? p = some v) : (loadVar ty p).run P w = .ok v w := by
  simp [loadVar, ha, run_load, hc]
section
variable {P : Program} {ops : Array Oper} {C : World → Prop} {Q : Act → Prop} {a : Act} {rest : List Oper}
theorem wpQuiet_load_one {o : Oper} (hw : Region.wanted o (yielded ops a.tmps) = true) (ty : TypeId) (x : Operand) (ho : o.op = .load ty x)
    (p : Addr) (hx : a.eval x = .pointer (some p)) (v : Value) (ha : ∀ w, (isAgg ty).run P w = .ok false w) (hg : ∀ w, C w → w.cell? p = some v)
    (h : wpQuiet P ops C Q rest (a.put o.dst v)) : wpQuiet P ops C Q (o :: rest) a :=
  wpQuiet_step fun K hK => by
    rw [if_pos hw]
    refine ⟨v, fun w hC => ?_, hK _ h⟩
    unfold Oper.quietAt execOp
    simp only [ho, hx, Instr.loadAt, Instr.sureAddr, Sem.run_bind, Sem.run_pure, Result.andThen_ok, run_loadVar_one ha (hg w hC)]
    exact ⟨rfl, rfl⟩
end
end Go.Proofs.Ytimhophelecmjaa
/- A cut of a slice, and any operation that only reads, in a quiet region. Over any program. -/
namespace Go.Proofs.Ytimhophelecmjaa
open Go.RowKit
section
variable {P : Program} {ops : Array Oper} {C : World → Prop} {Q : Act → Prop} {a : Act} {rest : List Oper}
theorem at_qslice {ty ty0 : TypeId} {x : Operand} {lo hi mx : Option Operand} {pos : String} {after : Array Edge} {gd : Option (Nat × Bool)} (d : Nat)
    (h : wpQuiet P ops C Q ({ dst := some d, op := .slice ty x lo hi mx, type := ty0, pos := pos, after := after, guard := gd } :: rest) a) :
    wpQuiet P ops C Q ({ dst := some d, op := .slice ty x lo hi mx, type := ty0, pos := pos, after := after, guard := gd } :: rest) a := h
theorem wpQuiet_of_run {o : Oper} (hw : Region.wanted o (yielded ops a.tmps) = true) (v : Value) (hg : ∀ w, C w → (execOp a.eval o).run P w = .ok (.value v) w)
    (h : wpQuiet P ops C Q rest (a.put o.dst v)) : wpQuiet P ops C Q (o :: rest) a :=
  wpQuiet_step fun K hK => by
    rw [if_pos hw]
    refine ⟨v, fun w hC => ?_, hK _ h⟩
    unfold Oper.quietAt
    rw [hg w hC]
    exact ⟨rfl, rfl⟩
end
end Go.Proofs.Ytimhophelecmjaa
/- Rows of elements of k cells: forms for regions that draw, taken by hand; literals. Over any program. -/
namespace Go.Proofs.Ytimhophelecmjaa
open Go.RowKit
section
variable {P : Program} {ops : Array Oper}
theorem yieldsIf_build {S : World → Prop} {a : Act} {o : Oper} (hw : Region.wanted o (yielded ops a.tmps) = true) (t : TypeId) (parts : Array (Nat × Operand)) (ho : o.op = .build t parts) (cells : Array Value)
    (hb : P.built t (parts.map fun (i, x) => (i, a.eval x)).toList = some cells) : YieldsIf P ops S o (.agg cells) a :=
  .inl ⟨hw, fun w _ => by
    unfold execOp
    simp only [ho, Sem.run_bind, run_build w t _ cells hb, Result.andThen_ok]
    rfl⟩
theorem wpList_built {rest : List Oper} {o : Oper} {a : Act} {w : World} {Q : Exit → Act → World → Prop} (hgd : o.guard = none) (t : TypeId) (parts : Array (Nat × Operand)) (ho : o.op = .build t parts) (cells : Array Value)
    (hb : P.built t (parts.map fun (i, x) => (i, a.eval x)).toList = some cells) (h : wpList P ops Q rest (a.put o.dst (.agg cells)) w) : wpList P ops Q (o :: rest) a w := by
  refine wpList_plain hgd fun K hK => ?_
  unfold Oper.wp execOp
  simp only [ho, Sem.run_bind, run_build w t _ cells hb, Result.andThen_ok]
  exact hK _ _ h
theorem at_build {rest : List Oper} {a : Act} {w : World} {Q : Exit → Act → World → Prop} {ty ty0 : TypeId} {parts : Array (Nat × Operand)} {pos : String} {after : Array Edge} {gd : Option (Nat × Bool)} (i : Nat)
    (h : wpList P ops Q ({ dst := some i, op := .build ty parts, type := ty0, pos := pos, after := after, guard := gd } :: rest) a w) :
    wpList P ops Q ({ dst := some i, op := .build ty parts, type := ty0, pos := pos, after := after, guard := gd } :: rest) a w := h
theorem at_buildSlice {rest : List Oper} {a : Act} {w : World} {Q : Exit → Act → World → Prop} {ty ty0 : TypeId} {len : Nat} {parts : Array (Nat × Operand)} {pos : String} {after : Array Edge} {gd : Option (Nat × Bool)} (i : Nat)
    (h : wpList P ops Q ({ dst := some i, op := .buildSlice ty len parts, type := ty0, pos := pos, after := after, guard := gd } :: rest) a w) :
    wpList P ops Q ({ dst := some i, op := .buildSlice ty len parts, type := ty0, pos := pos, after := after, guard := gd } :: rest) a w := h
theorem at_appendg {rest : List Oper} {a : Act} {w : World} {Q : Exit → Act → World → Prop} {t t' ty0 : TypeId} {pos : String} {after : Array Edge} {gd : Option (Nat × Bool)} (d i j : Nat)
    (h : wpList P ops Q ({ dst := some d, op := .call { callee := .builtin .append, args := #[.tmp i, .tmp j], argTypes := #[t, t'] }, type := ty0, pos := pos, after := after, guard := gd } :: rest) a w) :
    wpList P ops Q ({ dst := some d, op := .call { callee := .builtin .append, args := #[.tmp i, .tmp j], argTypes := #[t, t'] }, type := ty0, pos := pos, after := after, guard := gd } :: rest) a w := h
theorem at_copyg {rest : List Oper} {a : Act} {w : World} {Q : Exit → Act → World → Prop} {t t' ty0 : TypeId} {pos : String} {after : Array Edge} {gd : Option (Nat × Bool)} (d i j : Nat)
    (h : wpList P ops Q ({ dst := some d, op := .call { callee := .builtin .copy, args := #[.tmp i, .tmp j], argTypes := #[t, t'] }, type := ty0, pos := pos, after := after, guard := gd } :: rest) a w) :
    wpList P ops Q ({ dst := some d, op := .call { callee := .builtin .copy, args := #[.tmp i, .tmp j], argTypes := #[t, t'] }, type := ty0, pos := pos, after := after, guard := gd } :: rest) a w := h
end
section
variable {α : Type} {enc : α → List Value} {k : Nat} {P : Program} {t e : TypeId} (T : RowTy P t e enc k) {ops : Array Oper}
include T
theorem RowTy.yieldsIf_load {S : World → Prop} {a : Act} {o : Oper} (hw : Region.wanted o (yielded ops a.tmps) = true) (x : Operand) (ho : o.op = .load e x)
    (g off : Nat) (hx : a.eval x = .pointer (some ⟨g, off, none⟩)) (y : α) (hg : ∀ w, S w → RowC w g off (enc y)) : YieldsIf P ops S o (.agg (enc y).toArray) a :=
  .inl ⟨hw, fun w hS => by
    unfold execOp
    simp only [ho, hx, Instr.loadAt, Instr.sureAddr, Sem.run_bind, Sem.run_pure, Result.andThen_ok, T.load w g off y (hg w hS)]⟩
theorem RowTy.step_build {o : Oper} {a : Act} {w : World} {K : Act → World → Prop} {Q : Exit → Act → World → Prop} {E : Prop} (hgd : o.guard = none) (hz : ((P.info? e).bind (·.zero)).isSome = true)
    (len : Nat) (parts : Array (Nat × Operand)) (ho : o.op = .buildSlice t len parts) (l : List α) (hl : l.length = len) (h0 : 0 < len) (hsmall : len * k ≤ 2 ^ 24)
    (hp : (parts.map fun (i, x) => (i, a.eval x)).toList = ((l.map fun x => Value.agg (enc x).toArray).zipIdx 0).map fun x => (x.2, x.1))
    (h : K (a.put o.dst (.slice (some ⟨w.heap.size, 0, none⟩) len len)) (w.alloc (.cells (cellsOf enc l).toArray e))) :
    if Region.wanted o (yielded ops a.tmps) = true then Oper.wp P o a w K Q else E := by
  have hw : Region.wanted o (yielded ops a.tmps) = true := by simp [Region.wanted, hgd]
  rw [if_pos hw]
  have hs := T.size
  cases hie : P.info? e with
  | none => simp [hie] at hs
  | some ie =>
    simp only [hie, Option.map_some, Option.some.injEq, Option.bind_some] at hs hz
    obtain ⟨z, hzz⟩ := Option.isSome_iff_exists.1 hz
    refine wp_buildSlice t e len parts ho _ ie z T.slice hie hzz (by rw [hs]; omega) (by rw [hs]; have := Nat.mul_pos h0 T.pos; omega) ?_ h
    rw [hp, hs]
    exact T.fill l _ (by simp [hl])
end
theorem rowIn_new {α : Type} {enc : α → List Value} {k : Nat} {w' : World} {e : TypeId} {g c : Nat} {l : List α} (hb : Blk w' g e (cellsOf enc l).toArray) (hc : l.length ≤ c) (hm : c ≤ maxLen) : RowIn enc k w' w'.heap.size (some ⟨g, 0, none⟩) c l :=
  ⟨hc, hm, fun _ => ⟨g, 0, rfl, hb.lt, by have := RowC.of_blk hb; simpa using this⟩⟩
end Go.Proofs.Ytimhophelecmjaa
/- Rows of elements of k cells: append of a row, as one step of a region that draws; what append leaves alone. Over any program. -/
namespace Go.Proofs.Ytimhophelecmjaa
open Go.RowKit
theorem rowIn_blk {α : Type} {enc : α → List Value} {k : Nat} {w : World} {e : TypeId} {g c : Nat} {l : List α} (hb : Blk w g e (cellsOf enc l).toArray) (hc : l.length ≤ c) (hm : c ≤ maxLen) : RowIn enc k w (g + 1) (some ⟨g, 0, none⟩) c l :=
  ⟨hc, hm, fun _ => ⟨g, 0, rfl, by omega, by have := RowC.of_blk hb; simpa using this⟩⟩
theorem blk_grown {w w' : World} {g : Nat} {t : TypeId} {cs : Array Value} {row : Option Nat} (h : Blk w g t cs) (hg : w.grownBy w' row) (hne : some g ≠ row) : Blk w' g t cs := (hg.block g h.lt hne).trans h
section
variable {α : Type} {enc : α → List Value} {k : Nat} {P : Program} {t e : TypeId} (T : RowTy P t e enc k) {ops : Array Oper}
include T
theorem RowTy.step_append {o : Oper} {a : Act} {w : World} {K : Act → World → Prop} {Q : Exit → Act → World → Prop} {E : Prop} (hgd : o.guard = none) (hz : ((P.info? e).bind (·.zero)).map (·.cells.size) = some k) (bytes : Nat) (hb : (P.info? e).map (·.bytes) = some bytes) (hby : bytes ≤ 100000) (s x : Operand)
    (ho : o.op = .call { callee := .builtin .append, args := #[s, x], argTypes := #[t, t] })
    (base : Nat) (v : Value) (l : List α) (hs : a.eval s = v) (hown : w.ownsRow base e k v l.length (cellsOf enc l))
    (B : Nat) (A : Option Addr) (c : Nat) (m : List α) (hx : a.eval x = .slice A m.length c) (hm : RowIn enc k w B A c m) (hn : l.length + m.length ≤ 1000000) (hbase : base ≤ w.heap.size)
    (h : ∀ v' w', w'.ownsRow base e k v' (l ++ m).length (cellsOf enc (l ++ m)) → w.grownBy w' v.ownBlock → K (a.put o.dst v') w') :
    if Region.wanted o (yielded ops a.tmps) = true then Oper.wp P o a w K Q else E := by
  have hsz := T.size
  cases hie : P.info? e with
  | none => simp [hie] at hsz
  | some ie =>
    simp only [hie, Option.map_some, Option.some.injEq, Option.bind_some, Option.map_eq_some_iff] at hsz hz hb
    obtain ⟨z, hz1, hz2⟩ := hz
    refine step_append_any w hgd s x t ho base e ie z k bytes T.slice hie hz1 hsz hb hz2 T.pos v l.length (cellsOf enc l) hs hown B A m.length c (cellsOf enc m) hx (hm.reads T.len) (cellsOf_all1 T.one _) ?_ ?_ hbase ?_
    · unfold maxLen; omega
    · have : (l.length + m.length) * bytes ≤ 1000000 * 100000 := Nat.mul_le_mul hn hby
      omega
    · intro v' w' h2 h3 _
      exact h v' w' (by rw [List.length_append, cellsOf_append]; exact h2) h3
end
end Go.Proofs.Ytimhophelecmjaa
/- Rows of the call's own whose spare is not known: a store of one element, clear, a cut. Over any program. -/
namespace Go.Proofs.Ytimhophelecmjaa
open Go.RowKit
section
variable {α : Type} {enc : α → List Value} {k : Nat} {P : Program} {t e : TypeId} (T : RowTy P t e enc k)
theorem own_blk {w : World} {base g n cap : Nat} {e : TypeId} {k : Nat} {xs : List Value} (h : w.ownsRow base e k (.slice (some ⟨g, 0, none⟩) n cap) n xs) :
    ∃ cur, Blk w g e cur ∧ base ≤ g ∧ n ≤ cap ∧ cap ≤ maxLen ∧ cur.size = cap * k ∧ cur.toList.take (n * k) = xs := by
  rcases h.2 with ⟨h1, _⟩ | ⟨g', cap', cur, h1, hb, hh, hn, hm, hs, ht⟩
  · cases h1
  · injection h1 with h1 h2 h3
    injection h1 with h1
    injection h1 with h1
    subst h1
    subst h3
    exact ⟨cur, hh, hb, hn, hm, hs, ht⟩
theorem own_row {w : World} {base g cap : Nat} {e : TypeId} {k : Nat} {l : List α} (hk : ∀ x, (enc x).length = k) (h : w.ownsRow base e k (.slice (some ⟨g, 0, none⟩) l.length cap) l.length (cellsOf enc l)) : RowC w g 0 (cellsOf enc l) ∧ g < w.heap.size := by
  obtain ⟨cur, hb, _, hn, _, hs, ht⟩ := own_blk h
  refine ⟨fun j u hj => ?_, hb.lt⟩
  have hj' : j < l.length * k := by
    have := (List.getElem?_eq_some_iff.1 hj).1; rwa [cellsOf_len hk] at this
  rw [Nat.zero_add, hb.cell j, ← Array.getElem?_toList, ← hj, ← ht, List.getElem?_take_of_lt hj']
include T
theorem RowTy.own_set {w : World} {base g cap : Nat} {l : List α} (h : w.ownsRow base e k (.slice (some ⟨g, 0, none⟩) l.length cap) l.length (cellsOf enc l)) (i : Nat) (hi : i < l.length) (v : α) :
    ∃ w', (storeVar e ⟨g, i * k, none⟩ (.agg (enc v).toArray)).run P w = .ok () w' ∧ Only [g] w w' ∧ w'.ownsRow base e k (.slice (some ⟨g, 0, none⟩) l.length cap) l.length (cellsOf enc (l.set i v)) := by
  obtain ⟨cur, hb, hbase, hn, hm, hs, ht⟩ := own_blk h
  have hfit : (i + 1) * k ≤ l.length * k := Nat.mul_le_mul_right k hi
  have hfit2 : l.length * k ≤ cap * k := Nat.mul_le_mul_right k hn
  have hik : i * k + k ≤ l.length * k := by rwa [Nat.add_mul, Nat.one_mul] at hfit
  have hst := run_storeCells_at P g (i * k) e (enc v) 0 cur w hb (by rw [T.len, Nat.add_zero, hs]; omega) (T.one v)
  rw [Nat.add_zero, T.len] at hst
  refine ⟨w.setRow g (cur.toList.take (i * k) ++ enc v ++ cur.toList.drop (i * k + k)).toArray, by simp [storeVar, T.sizeOf, Value.cells, T.len, hst], (only_setRow hb _).1, ?_⟩
  have hcl : cur.toList.length = cap * k := by rw [Array.length_toList, hs]
  refine ⟨by rw [cellsOf_len T.len, List.length_set], .inr ⟨g, cap, _, rfl, hbase, (only_setRow hb _).2, hn, hm, ?_, ?_⟩⟩
  · rw [List.size_toArray, List.length_append, List.length_append, List.length_take, List.length_drop, T.len, hcl]; omega
  · rw [← T.splice_set l i hi v, ← ht]
    show ((cur.toList.take (i * k) ++ enc v ++ cur.toList.drop (i * k + k)).toArray).toList.take (l.length * k) = _
    have e1 : (cur.toList.take (i * k) ++ enc v).length = i * k + k := by rw [List.length_append, List.length_take, T.len, hcl]; omega
    simp only []
    rw [List.take_append, List.take_of_length_le (by rw [e1]; exact hik), e1, List.take_take, Nat.min_eq_left (by omega), List.drop_take]
theorem RowTy.wpList_storeOwn {ops : Array Oper} {rest : List Oper} {o : Oper} {a : Act} {w : World} {Q : Exit → Act → World → Prop} (hgd : o.guard = none) (x y : Operand) (ho : o.op = .store e x y)
    (hd : o.dst = none) (g i : Nat) (v : α) (hx : a.eval x = .pointer (some ⟨g, i * k, none⟩)) (hy : a.eval y = .agg (enc v).toArray) (base cap n : Nat) (l : List α) (hl : l.length = n) (hown : w.ownsRow base e k (.slice (some ⟨g, 0, none⟩) n cap) n (cellsOf enc l)) (hi : i < l.length)
    (h : ∀ w', Only [g] w w' → w'.ownsRow base e k (.slice (some ⟨g, 0, none⟩) n cap) n (cellsOf enc (l.set i v)) → wpList P ops Q rest a w') : wpList P ops Q (o :: rest) a w :=
  wpList_plain hgd fun _ hK => by
    subst hl
    obtain ⟨w', hrun, h1, h2⟩ := T.own_set hown i hi v
    unfold Oper.wp execOp
    simp only [ho, hx, hy, Instr.storeAt, Instr.sureAddr, Sem.run_bind, Sem.run_pure, Result.andThen_ok, hrun]
    rw [Oper.upon_skip, hd]
    exact hK _ _ (h w' h1 h2)
theorem RowTy.run_clear {w : World} {base g n cap : Nat} {xs : List Value} (h : w.ownsRow base e k (.slice (some ⟨g, 0, none⟩) n cap) n xs) (z : Value) (hz : ∀ w, (zeroValue e).run P w = .ok z w) (hz1 : ∀ v ∈ z.cells, v.oneCell' = true) (hzs : z.cells.size = k) (ty : TypeId) (i m c : Nat) (A : Option Addr) (hA : A = some ⟨g, i * k, none⟩) (him : i + m ≤ n) :
    ∃ w', (Builtin.clear_ #[t] ty #[.slice A m c]).run P w = .ok (.tuple #[]) w' ∧ Only [g] w w' := by
  subst hA
  obtain ⟨cur, hb, hbase, hn, hm, hs, ht⟩ := own_blk h
  rcases m with _ | m
  · exact ⟨w, by simp [Builtin.clear_, run_underlying T.slice], Only.refl _ _⟩
  · have hzl : (Builtin.zeroCells z.cells (m + 1)).toList.length = (m + 1) * k := by simp [Builtin.zeroCells, hzs]
    have hz2 : ∀ v ∈ (Builtin.zeroCells z.cells (m + 1)).toList, v.oneCell' = true := by
      intro v hv
      simp only [Builtin.zeroCells, Array.toList_map, List.mem_map, Array.mem_toList_iff, Array.mem_range] at hv
      obtain ⟨q, hq, rfl⟩ := hv
      have hlt : q % z.cells.size < z.cells.size := Nat.mod_lt _ (by rw [hzs]; exact T.pos)
      rw [getElem!_pos z.cells _ hlt]
      exact hz1 _ (Array.getElem_mem hlt)
    have hfit : (i + (m + 1)) * k ≤ cap * k := Nat.mul_le_mul_right k (by omega)
    have hst := run_storeCells_at P g (i * k) e (Builtin.zeroCells z.cells (m + 1)).toList 0 cur w hb (by rw [hzl, Nat.add_zero, hs, ← Nat.add_mul]; exact hfit) hz2
    exact ⟨w.setRow g (cur.toList.take (i * k + 0) ++ (Builtin.zeroCells z.cells (m + 1)).toList ++ cur.toList.drop (i * k + 0 + (Builtin.zeroCells z.cells (m + 1)).toList.length)).toArray, by simp [Builtin.clear_, run_underlying T.slice, hz, hst], (only_setRow hb _).1⟩
theorem RowTy.wpList_clear {ops : Array Oper} {rest : List Oper} {o : Oper} {a : Act} {w : World} {Q : Exit → Act → World → Prop} (hgd : o.guard = none) (x : Operand)
    (ho : o.op = .call { callee := .builtin .clear, args := #[x], argTypes := #[t] }) (hd : o.dst = none) (base g n cap : Nat) (xs : List Value) (hown : w.ownsRow base e k (.slice (some ⟨g, 0, none⟩) n cap) n xs) (z : Value) (hz : ∀ w, (zeroValue e).run P w = .ok z w) (hz1 : ∀ v ∈ z.cells, v.oneCell' = true) (hzs : z.cells.size = k)
    (i m c : Nat) (A : Option Addr) (hx : a.eval x = .slice A m c) (hA : A = some ⟨g, i * k, none⟩) (him : i + m ≤ n)
    (h : ∀ w', Only [g] w w' → wpList P ops Q rest a w') : wpList P ops Q (o :: rest) a w := by
  refine wpList_plain hgd fun K hK => ?_
  obtain ⟨w', hrun, h1⟩ := T.run_clear hown z hz hz1 hzs o.type i m c A hA him
  unfold Oper.wp
  simp [execOp, ho, resolve, invoke, builtin, hx, hrun, Result.andThen]
  rw [Oper.upon_value, hd]
  exact hK _ _ (h w' h1)
end
theorem at_clearg {P : Program} {ops : Array Oper} {rest : List Oper} {a : Act} {w : World} {Q : Exit → Act → World → Prop} {t ty0 : TypeId} {pos : String} {after : Array Edge} {gd : Option (Nat × Bool)} (i : Nat)
    (h : wpList P ops Q ({ dst := none, op := .call { callee := .builtin .clear, args := #[.tmp i], argTypes := #[t] }, type := ty0, pos := pos, after := after, guard := gd } :: rest) a w) :
    wpList P ops Q ({ dst := none, op := .call { callee := .builtin .clear, args := #[.tmp i], argTypes := #[t] }, type := ty0, pos := pos, after := after, guard := gd } :: rest) a w := h
end Go.Proofs.Ytimhophelecmjaa
/- A slice of elements of k cells that came in, alone or in a field: read as a list. Over any program. -/
namespace Go.Proofs.Ytimhophelecmjaa
open Go.RowKit Go.ChangeShapes Go.WideShapes
section
variable {α : Type} {en : α → List Value} {k : Nat} {H : Type} {enc : TypeId × Value → H} {P : Program} {w : World} {base : Nat} {spare : Nat → Bool} {held : Bool} {t tk : TypeId}
theorem trod_rows {fuel : Nat} {cs : List Value} {x : DataW H × List MemPlace} (hlen : ∀ x, (en x).length = k) (h0 : 0 < k) (ht : P.underlying t = some (.slice tk)) (hct : P.cellsOf tk = k)
    (hel : ∀ (fuel : Nat) (cs : List Value) (x : DataW H × List MemPlace), cs.length = k → DataW.trod enc P w base spare held fuel tk cs = some x → ∃ a, cs = en a) (h : DataW.trod enc P w base spare held fuel t cs = some x) :
    ∃ A c l, cs = [.slice A (l : List α).length c] ∧ RowIn en k w w.heap.size A c l := by
  rcases Deep.open_slice ht h with ⟨rfl, _⟩ | ⟨a, n, c, m, n', D, Pl, rfl, _, hl, hm, hmm, _, hx⟩
  · exact ⟨none, 0, [], rfl, RowIn.nil (Nat.zero_le _)⟩
  · have hlm : n ≤ m := by rw [hmm]; split <;> omega
    rw [hct] at hx
    rcases Nat.eq_zero_or_pos n with hn0 | hn0
    · subst hn0
      exact ⟨some a, c, [], rfl, RowIn.nil hm⟩
    · have hex : ∀ i, i < n → ∃ q, w.cells? base (a.add (i * k)) k = some (en q) := fun i hi => by
        obtain ⟨cs', h1, h2⟩ := hx i (by omega)
        obtain ⟨_, hlen', _⟩ := World.cells?_some h1
        obtain ⟨q, rfl⟩ := hel _ _ _ hlen' h2
        exact ⟨q, h1⟩
      haveI : Inhabited α := ⟨(hex 0 hn0).choose⟩
      obtain ⟨f, hf'⟩ := Deep.choose_lt (n := n) (p := fun i (q : α) => w.cells? base (a.add (i * k)) k = some (en q)) hex
      have hrow : ∀ j u, (cellsOf en ((List.range n).map f))[j]? = some u → w.cell? (a.add j) = some u := by
        intro j u hj
        have hj' := (List.getElem?_eq_some_iff.1 hj).1
        rw [cellsOf_len hlen, List.length_map, List.length_range] at hj'
        have hq : j / k < n := (Nat.div_lt_iff_lt_mul h0).2 hj'
        have e : j = j / k * k + j % k := (Nat.div_add_mod' j k).symm
        rw [e, cellsOf_at hlen _ (j / k) (by simpa using hq) (j % k) (Nat.mod_lt _ h0)] at hj
        simp only [List.getElem_map, List.getElem_range] at hj
        have h3 := (World.cells?_some (hf' (j / k) hq)).2.2 (j % k) (Nat.mod_lt _ h0)
        rw [Deep.add_add, ← e] at h3
        rw [h3]
        simpa using hj
      refine ⟨some a, c, (List.range n).map f, by simp, by simpa using hl, hm, fun hn => ?_⟩
      have hz : 0 < (cellsOf en ((List.range n).map f)).length := by rw [cellsOf_len hlen]; simp; exact Nat.mul_pos hn0 h0
      have h00 := hrow 0 _ (List.getElem?_eq_getElem hz)
      obtain ⟨b, off, spot⟩ := a
      have hspot : spot = none := by simpa [Addr.add] using World.cell?_spot h00
      subst hspot
      refine ⟨b, off, rfl, ?_, fun j u hj => ?_⟩
      · have := World.block_lt_of_cell? w _ h00
        rwa [block_of_add] at this
      · have hadd : (⟨b, off, none⟩ : Addr).add j = ⟨b, off + j, none⟩ := by unfold Addr.add; split <;> simp_all
        rw [← hadd]; exact hrow j u hj
end
end Go.Proofs.Ytimhophelecmjaa
/- 'SRow w base v n xs': v is a slice of n one-cell elements xs, in a row of the call's own (its block is base or later), whose cells may all be written, whatever marks lie beside them. For '[]byte(s)', whose row bears a mark. Over any program. -/
namespace Go.Proofs.Ytimhophelecmjaa
open Go.RowKit
def SRow (w : World) (base : Nat) (v : Value) (n : Nat) (xs : List Value) : Prop :=
  xs.length = n ∧ ((v = .slice none 0 0 ∧ n = 0) ∨ ∃ g cap, v = .slice (some ⟨g, 0, none⟩) n cap ∧ base ≤ g ∧ g < w.heap.size ∧ n ≤ cap ∧ cap ≤ maxLen ∧
    (∀ j u, xs[j]? = some u → w.cell? ⟨g, j, none⟩ = some u) ∧ ∀ j, j < cap → (w.cell? ⟨g, j, none⟩).isSome = true ∧ w.frozen? ⟨g, j, none⟩ = false)
section
variable {w w' : World} {base n : Nat} {v : Value} {xs : List Value}
theorem SRow.of_own {e : TypeId} (h : w.ownsRow base e 1 v n xs) : SRow w base v n xs := by
  have hx := h.1
  rw [Nat.mul_one] at hx
  refine ⟨hx, ?_⟩
  rcases h.2 with h0 | ⟨g, cap, cur, rfl, hb, hh, hn, hc, hs, ht⟩
  · exact .inl h0
  · refine .inr ⟨g, cap, rfl, hb, (Array.getElem?_eq_some_iff.1 hh).1, hn, hc, fun j u hu => ?_, fun j hj => ?_⟩
    · have := h.cells (g := g) rfl j u hu
      rwa [show (⟨g, 0, none⟩ : Addr).add j = ⟨g, j, none⟩ by unfold Addr.add; split <;> simp_all] at this
    · rw [Nat.mul_one] at hs
      exact ⟨by rw [cell_of_row w g j cur e (0, 0) hh, Array.getElem?_eq_getElem (by omega)]; rfl, by simp [World.frozen?, hh]⟩
theorem SRow.keep (h : SRow w base v n xs) (hk : ∀ b, base ≤ b → b < w.heap.size → w'.heap[b]? = w.heap[b]?) (hz : w.heap.size ≤ w'.heap.size) : SRow w' base v n xs := by
  refine ⟨h.1, ?_⟩
  rcases h.2 with h0 | ⟨g, cap, rfl, hb, hg, hn, hc, hx, hw⟩
  · exact .inl h0
  · have hcell : ∀ j, w'.cell? ⟨g, j, none⟩ = w.cell? ⟨g, j, none⟩ := fun j => World.cell?_of_block (a := ⟨g, j, none⟩) (hk g hb hg)
    have hfr : ∀ j, w'.frozen? ⟨g, j, none⟩ = w.frozen? ⟨g, j, none⟩ := fun j => by unfold World.frozen?; rw [hk g hb hg]
    exact .inr ⟨g, cap, rfl, hb, by omega, hn, hc, fun j u hu => (hcell j).trans (hx j u hu), fun j hj => by rw [hcell, hfr]; exact hw j hj⟩
theorem SRow.below (h : SRow w base v n xs) (hb : Below w.heap.size w w') : SRow w' base v n xs := h.keep (fun b _ hlt => hb.block b hlt) hb.size
theorem SRow.alloc (h : SRow w base v n xs) (o : Obj) : SRow (w.alloc o) base v n xs := h.below ((Below.refl _ _).alloc (Nat.le_refl _) o)
theorem SRow.drew (h : SRow w base v n xs) : SRow w.drew base v n xs := h
theorem SRow.drewN (h : SRow w base v n xs) (k : Nat) : SRow (w.drewN k) base v n xs := h
theorem SRow.reads (h : SRow w base v n xs) : ∃ A c, v = .slice A n c ∧ Reads w w.heap.size 1 A n xs := by
  rcases h.2 with ⟨rfl, rfl⟩ | ⟨g, cap, rfl, hb, hg, hn, hc, hx, hw⟩
  · exact ⟨none, 0, rfl, by rw [h.1, Nat.mul_one], fun h0 => absurd h0 (by omega)⟩
  · refine ⟨some ⟨g, 0, none⟩, cap, rfl, by rw [h.1, Nat.mul_one], fun _ => ⟨_, rfl, hg, fun j u hu => ?_⟩⟩
    rw [show (⟨g, 0, none⟩ : Addr).add j = ⟨g, j, none⟩ by unfold Addr.add; split <;> simp_all]
    exact hx j u hu
end
theorem SRow.stored {w : World} {base n cap g : Nat} {xs : List Value} (h : SRow w base (.slice (some ⟨g, 0, none⟩) n cap) n xs) (hroom : n + 1 ≤ cap) (u : Value) (hg : base ≤ g) :
    SRow (w.setCell ⟨g, n, none⟩ u) base (.slice (some ⟨g, 0, none⟩) (n + 1) cap) (n + 1) (xs ++ [u]) ∧ (base ≤ g → Below base w (w.setCell ⟨g, n, none⟩ u)) := by
  rcases h.2 with ⟨h0, _⟩ | ⟨g', cap', h0, hb, hlt, hn, hc, hx, hw⟩
  · cases h0
  · injection h0 with h0 _ h1
    injection h0 with h0
    injection h0 with h0
    subst h0 h1
    have hs : (w.cell? ⟨g, n, none⟩).isSome = true := (hw n (by omega)).1
    obtain ⟨old, hold⟩ := Option.isSome_iff_exists.1 hs
    refine ⟨⟨by simp [h.1], .inr ⟨g, cap, rfl, hg, by simpa [World.setCell] using hlt, hroom, hc, fun j x hj => ?_, fun j hj => ?_⟩⟩, fun hbg => (Below.refl _ _).setCell hbg u⟩
    · by_cases e : j = n
      · subst e
        rw [List.getElem?_append_right (by rw [h.1]; exact Nat.le_refl _), h.1, Nat.sub_self] at hj
        simp at hj
        subst hj
        exact World.cell?_setCell_same _ _ _ hold
      · have hjl : j < n := by
          rcases Nat.lt_or_ge j (xs ++ [u]).length with h2 | h2
          · rw [List.length_append, h.1] at h2; simp at h2; omega
          · rw [List.getElem?_eq_none h2] at hj; cases hj
        rw [List.getElem?_append_left (by rw [h.1]; exact hjl)] at hj
        rw [World.cell?_setCell_other _ _ _ _ (fun e2 => by injection e2 with _ e2; exact e e2.symm)]
        exact hx j x hj
    · rw [World.frozen?_setCell]
      refine ⟨?_, (hw j hj).2⟩
      by_cases e : j = n
      · subst e; rw [World.cell?_setCell_same _ _ _ hold]; rfl
      · rw [World.cell?_setCell_other _ _ _ _ (fun e2 => by injection e2 with _ e2; exact e e2.symm)]
        exact (hw j hj).1
/-- one element put behind such a row -/
theorem wpList_append1s {P : Program} {ops : Array Oper} {rest : List Oper} {o : Oper} {a : Act} {w : World} {Q : Exit → Act → World → Prop} (hgd : o.guard = none) (s x : Operand) (t : TypeId)
    (ho : o.op = .call { callee := .builtin .append, args := #[s, x], argTypes := #[t, t] })
    (base : Nat) (e : TypeId) (z : Value) (bytes : Nat) (ht : P.underlying t = some (.slice e)) (hi : (P.info? e).map (fun i => (i.zero, i.size, i.bytes)) = some (some z, 1, bytes))
    (hzs : z.cells.size = 1) (hby : bytes ≤ 64) (v : Value) (n : Nat) (xs : List Value) (hs : a.eval s = v) (hown : SRow w base v n xs)
    (g c : Nat) (u : Value) (hx : a.eval x = .slice (some ⟨g, 0, none⟩) 1 c) (hb : Blk w g e #[u]) (h1 : u.oneCell' = true) (hn : n + 1 ≤ 1000000000) (hbase : base ≤ w.heap.size)
    (h : ∀ v' w', SRow w' base v' (n + 1) (xs ++ [u]) → Below base w w' → wpList P ops Q rest (a.put o.dst v') w') : wpList P ops Q (o :: rest) a w := by
  obtain ⟨i, hi0, hz0, hz1, hz2⟩ := info_parts hi
  have hbb : (n + 1) * bytes ≤ 1000000000 * 64 := Nat.mul_le_mul hn hby
  rcases hown.2 with ⟨rfl, rfl⟩ | ⟨g', cap, rfl, hbg, hlt, hnc, hc, hcell, hw⟩
  · have hx0 : xs = [] := List.eq_nil_of_length_eq_zero hown.1
    subst hx0
    refine wpList_append1g hgd s x t ho base e z bytes ht hi hzs hby (.slice none 0 0) 0 [] hs (World.ownsRow_nil w base e 1) g c u hx hb h1 hn hbase fun v' w' o1 g1 _ => ?_
    exact h v' w' (SRow.of_own o1) (grown_below g1 (World.ownsRow_nil w base e 1) hbase)
  · refine wpList_append_arg w hgd s x t ho e i z 1 bytes ht hi0 hz0 hz1 hz2 hzs (by omega) g' 0 n cap xs hs (by rw [hown.1, Nat.mul_one]) (fun j y hy => by rw [Nat.zero_add]; exact hcell j y hy) ⟨g, 0, none⟩ 1 c [u] hx rfl ?_ ?_ ?_ ?_ ?_ ?_ ?_
    · intro j y hj
      match j, hj with
      | 0, hj => simp at hj; subst hj; simpa [Addr.add] using hb.cell 0
    · intro y hy; simp at hy; subst hy; exact h1
    · intro hr j hj
      simp at hj
      subst hj
      rw [Nat.zero_add, Nat.mul_one, Nat.add_zero]
      exact hw n (by omega)
    · unfold maxLen; omega
    · omega
    · intro hr
      rw [Nat.zero_add, Nat.mul_one]
      have hst := SRow.stored hown hr u hbg
      exact h _ _ hst.1 (hst.2 hbg)
    · intro hr v' w' o1 g1
      exact h v' w' (SRow.of_own (by
        refine ⟨o1.1, ?_⟩
        rcases o1.2 with h0 | ⟨g2, c2, cur, r1, r2, r3⟩
        · exact .inl h0
        · exact .inr ⟨g2, c2, cur, r1, by omega, r3⟩)) ((Below.refl _ _).grown g1 hbase (fun k hk => by cases hk))
theorem run_append_grows1 {P : Program} {w : World} (t ty e : TypeId) (z : Value) (bytes : Nat) (ht : P.underlying t = some (.slice e)) (hi : (P.info? e).map (fun i => (i.zero, i.size, i.bytes)) = some (some z, 1, bytes)) (hzs : z.cells.size = 1) (hby : bytes ≤ 64)
    (g' cap n : Nat) (xs : List Value) (hx : xs.length = n) (hcell : ∀ j u, xs[j]? = some u → w.cell? ⟨g', j, none⟩ = some u) (g c : Nat) (u : Value) (hb : Blk w g e #[u]) (hr : cap < n + 1) (hn : n + 1 ≤ 1000000000) :
    ∃ v' w', (Builtin.append_ #[t, t] ty #[.slice (some ⟨g', 0, none⟩) n cap, .slice (some ⟨g, 0, none⟩) 1 c]).run P w = .ok v' w' ∧ w'.ownsRow w.heap.size e 1 v' (n + 1) (xs ++ [u]) ∧ w.grownBy w' none := by
  obtain ⟨i, hi0, hz0, hz1, hz2⟩ := info_parts hi
  have hbb : (n + 1) * bytes ≤ 1000000000 * 64 := Nat.mul_le_mul hn hby
  refine run_append_arg_grows (P := P) w t ty e i z 1 bytes ht hi0 hz0 hz1 hz2 hzs (by omega) ⟨g', 0, none⟩ n cap xs (by rw [hx, Nat.mul_one]) (fun j y hy => ?_) ⟨g, 0, none⟩ 1 c [u] rfl (fun j y hy => ?_) hr (by unfold maxLen; omega) (by omega)
  · rw [show (⟨g', 0, none⟩ : Addr).add j = ⟨g', j, none⟩ by unfold Addr.add; split <;> simp_all]
    exact hcell j y hy
  · match j, hy with
    | 0, hy => simp at hy; subst hy; simpa [Addr.add] using hb.cell 0
/-- one element put behind such a row, as one step of a region that draws; the elements that were there are where they were -/
theorem step_append1s {P : Program} {ops : Array Oper} {o : Oper} {a : Act} {w : World} {K : Act → World → Prop} {Q : Exit → Act → World → Prop} {E : Prop} (hgd : o.guard = none) (s x : Operand) (t : TypeId)
    (ho : o.op = .call { callee := .builtin .append, args := #[s, x], argTypes := #[t, t] })
    (base : Nat) (e : TypeId) (z : Value) (bytes : Nat) (ht : P.underlying t = some (.slice e)) (hi : (P.info? e).map (fun i => (i.zero, i.size, i.bytes)) = some (some z, 1, bytes))
    (hzs : z.cells.size = 1) (hby : bytes ≤ 64) (g' cap n : Nat) (xs : List Value) (hs : a.eval s = .slice (some ⟨g', 0, none⟩) n cap) (hown : SRow w base (.slice (some ⟨g', 0, none⟩) n cap) n xs)
    (g c : Nat) (u : Value) (hx : a.eval x = .slice (some ⟨g, 0, none⟩) 1 c) (hb : Blk w g e #[u]) (h1 : u.oneCell' = true) (hn : n + 1 ≤ 1000000000) (hbase : base ≤ w.heap.size)
    (h : ∀ v' w', SRow w' base v' (n + 1) (xs ++ [u]) → Below base w w' → (∀ j, j < n → w'.cell? ⟨g', j, none⟩ = w.cell? ⟨g', j, none⟩) → K (a.put o.dst v') w') :
    if Region.wanted o (yielded ops a.tmps) = true then Oper.wp P o a w K Q else E := by
  have hw : Region.wanted o (yielded ops a.tmps) = true := by simp [Region.wanted, hgd]
  rw [if_pos hw]
  rcases hown.2 with ⟨h0, _⟩ | ⟨g0, cap0, h0, hbg, hlt, hnc, hc, hcell, hwr⟩
  · cases h0
  · injection h0 with h0 _ h2
    injection h0 with h0
    injection h0 with h0
    subst h0 h2
    by_cases hr : n + 1 ≤ cap
    · obtain ⟨i, hi0, hz0, hz1, hz2⟩ := info_parts hi
      have hrun := run_append_room_cells (P := P) w t o.type e i ht hi0 g' 0 n cap ⟨g, 0, none⟩ 1 c [u] (by rw [hz1]; rfl) (fun j y hy => by
        match j, hy with
        | 0, hy => simp at hy; subst hy; simpa [Addr.add] using hb.cell 0) (fun y hy => by simp at hy; subst hy; exact h1) hr (fun j hj => by
          simp at hj; subst hj; rw [hz1, Nat.zero_add, Nat.mul_one, Nat.add_zero]; exact (hwr n (by omega)).1) (fun j hj => by
          simp at hj; subst hj; rw [hz1, Nat.zero_add, Nat.mul_one, Nat.add_zero]; exact (hwr n (by omega)).2)
      rw [hz1, Nat.zero_add, Nat.mul_one] at hrun
      have hst := SRow.stored hown hr u hbg
      unfold Oper.wp
      simp [execOp, ho, resolve, invoke, builtin, hs, hx, hrun, Result.andThen]
      exact h _ _ hst.1 (hst.2 hbg) (fun j hj => World.cell?_setCell_other _ _ _ _ (fun e2 => by injection e2 with _ e2; omega))
    · obtain ⟨v', w', hrun, o1, g1⟩ := run_append_grows1 (P := P) t o.type e z bytes ht hi hzs hby g' cap n xs hown.1 hcell g c u hb (by omega) hn
      unfold Oper.wp
      simp [execOp, ho, resolve, invoke, builtin, hs, hx, hrun, Result.andThen]
      refine h _ _ (SRow.of_own (by
        refine ⟨o1.1, ?_⟩
        rcases o1.2 with h0 | ⟨g2, c2, cur, r1, r2, r3⟩
        · exact .inl h0
        · exact .inr ⟨g2, c2, cur, r1, by omega, r3⟩)) ((Below.refl _ _).grown g1 hbase (fun k hk => by cases hk)) (fun j hj => ?_)
      exact World.cell?_of_block (a := ⟨g', j, none⟩) (g1.block g' hlt (by simp))
theorem SRow.cellAt {w : World} {base n g cap : Nat} {xs : List Value} (h : SRow w base (.slice (some ⟨g, 0, none⟩) n cap) n xs) (j : Nat) (u : Value) (hj : xs[j]? = some u) : w.cell? ⟨g, j, none⟩ = some u := by
  rcases h.2 with ⟨h0, _⟩ | ⟨g0, cap0, h0, _, _, _, _, hcell, _⟩
  · cases h0
  · injection h0 with h0 _ _
    injection h0 with h0
    injection h0 with h0
    subst h0
    exact hcell j u hj
theorem SRow.form {w : World} {base n : Nat} {v : Value} {xs : List Value} (h : SRow w base v n xs) (hn : 0 < n) : ∃ g cap, v = .slice (some ⟨g, 0, none⟩) n cap ∧ base ≤ g ∧ g < w.heap.size := by
  rcases h.2 with ⟨_, h0⟩ | ⟨g0, cap0, h0, hb, hlt, _⟩
  · omega
  · exact ⟨g0, cap0, h0, hb, hlt⟩
/-- what '[]byte(s)' lays is such a row -/
theorem SRow.of_bytes (w : World) (e : TypeId) (s : ByteArray) (base cap : Nat) (hb : base ≤ w.heap.size) (hcap : s.size ≤ cap) (hm : cap ≤ maxLen) :
    SRow (w.drew.alloc (.cells (bytesRow s cap) e ((bytesRow s cap).size, (bytesRow s cap).size + 1))) base (.slice (some ⟨w.heap.size, 0, none⟩) s.size cap) s.size (s.data.toList.map fun b => Value.int .u8 (b.toNat : Int)) := by
  have hsz : (bytesRow s cap).size = cap := by
    have h0 : s.data.size = s.size := rfl
    unfold bytesRow
    rw [Array.size_append, Array.size_map, Array.size_replicate, h0]
    omega
  have hh : (w.drew.alloc (.cells (bytesRow s cap) e ((bytesRow s cap).size, (bytesRow s cap).size + 1))).heap[w.heap.size]? = some (.cells (bytesRow s cap) e ((bytesRow s cap).size, (bytesRow s cap).size + 1)) := heap_alloc_new w.drew _
  refine ⟨by rw [List.length_map, Array.length_toList]; rfl, .inr ⟨w.heap.size, cap, rfl, hb, by simp, hcap, hm, fun j u hu => ?_, fun j hj => ⟨?_, ?_⟩⟩⟩
  · rw [cell_of_row _ _ _ _ _ _ hh]
    rw [List.getElem?_map] at hu
    have hj : j < s.data.size := by
      rcases Nat.lt_or_ge j s.data.toList.length with h | h
      · simpa using h
      · rw [List.getElem?_eq_none h] at hu; cases hu
    rw [Array.getElem?_toList, Array.getElem?_eq_getElem hj] at hu
    simp only [Option.map_some, Option.some.injEq] at hu
    subst hu
    have hj' : j < s.size := hj
    simp [bytesRow, Array.getElem?_append, hj']
  · rw [cell_of_row _ _ _ _ _ _ hh, Array.getElem?_eq_getElem (by omega)]; rfl
  · have e2 : (w.drew.alloc (.cells (bytesRow s cap) e ((bytesRow s cap).size, (bytesRow s cap).size + 1))).frozen? ⟨w.heap.size, j, none⟩ = (decide ((bytesRow s cap).size ≤ j) && decide (j < (bytesRow s cap).size + 1)) := by
      simp only [World.frozen?]
      rw [hh]
    rw [e2, hsz]
    have h3 : decide (cap ≤ j) = false := by simpa using hj
    rw [h3]
    rfl
end Go.Proofs.Ytimhophelecmjaa
/- Plain: a text's list of bytes, as the model compares texts. No program is named here. -/
namespace Go.Proofs.Ytimhophelecmjaa
theorem ba_loop (bs : ByteArray) : ∀ (k i : Nat) (r : List UInt8), bs.size - i = k → ByteArray.toList.loop bs i r = r.reverse ++ bs.data.toList.drop i := by
  intro k
  induction k with
  | zero =>
    intro i r h
    unfold ByteArray.toList.loop
    rw [if_neg (by omega), List.drop_eq_nil_of_le (by simp; have : bs.data.size = bs.size := rfl; omega)]
    simp
  | succ k ih =>
    intro i r h
    have hi : i < bs.data.size := by have : bs.data.size = bs.size := rfl; omega
    have hd := List.drop_eq_getElem_cons (l := bs.data.toList) (i := i) (by simpa using hi)
    unfold ByteArray.toList.loop
    rw [if_pos (by omega), ih (i + 1) _ (by omega), hd]
    have : bs.get! i = bs.data.toList[i]'(by simpa using hi) := by
      show bs.data[i]! = _
      rw [getElem!_pos bs.data i hi]; simp
    rw [this]
    simp
theorem ba_toList (bs : ByteArray) : bs.toList = bs.data.toList := by
  unfold ByteArray.toList; rw [ba_loop bs _ 0 [] rfl]; simp
theorem bytes_ext {a b : ByteArray} (h : a.data.toList = b.data.toList) : a = b := by
  apply ByteArray.ext; exact Array.toList_inj.1 h
/-- texts compared -/
theorem ba_beq (a b : ByteArray) : (a.toList == b.toList) = decide (a = b) := by
  rw [ba_toList, ba_toList, Bool.eq_iff_iff, beq_iff_eq, decide_eq_true_iff]
  exact ⟨bytes_ext, fun h => by rw [h]⟩
end Go.Proofs.Ytimhophelecmjaa
/- Structs that came in: their fields' cells, one behind the other; a key, an integer among them. Over any program. -/
namespace Go.Proofs.Ytimhophelecmjaa
open Go.RowKit Go.ChangeShapes Go.WideShapes
section
variable {H : Type} {enc : TypeId × Value → H} {P : Program} {w : World} {base : Nat} {spare : Nat → Bool} {held : Bool} {t tk e : TypeId}
/-- the cells of n at place o -/
abbrev cut (cs : List Value) (o n : Nat) : List Value := (cs.drop o).take n
theorem cut_len {cs : List Value} {o n : Nat} (h : o + n ≤ cs.length) : (cut cs o n).length = n := by
  unfold cut
  rw [List.length_take, List.length_drop]; omega
theorem cut_two (cs : List Value) (a b : Nat) (h : cs.length = a + b) : cs = cut cs 0 a ++ cut cs a b := by
  unfold cut
  rw [List.drop_zero, List.take_of_length_le (l := cs.drop a) (by rw [List.length_drop]; omega), List.take_append_drop]
theorem cut_join (cs : List Value) (o a b : Nat) : cut cs o (a + b) = cut cs o a ++ cut cs (o + a) b := by
  unfold cut
  rw [List.take_add, List.drop_drop]
theorem cut_all (cs : List Value) (n : Nat) (h : cs.length = n) : cut cs 0 n = cs := by
  unfold cut
  rw [List.drop_zero, List.take_of_length_le (by omega)]
/-- an integer of kind q -/
abbrev IntV (q : IntKind) := {z : Int // (Lit.int q z).wf = true}
theorem trod_intV {q : IntKind} {fuel : Nat} {cs : List Value} {x : DataW H × List MemPlace} (ht : P.underlying t = some (.int q)) (h : DataW.trod enc P w base spare held fuel t cs = some x) : ∃ z : IntV q, cs = [.int q z.1] := by
  obtain ⟨z, h1, _, h3⟩ := DataW.trod_int ht h
  exact ⟨⟨z, h3⟩, h1⟩
/-- a struct of a key and a number -/
def encKI (q : IntKind) (x : K32 × IntV q) : List Value := encK x.1 ++ [.int q x.2.1]
def encIK (q : IntKind) (x : IntV q × K32) : List Value := .int q x.1.1 :: encK x.2
theorem encKI_len (q : IntKind) (x : K32 × IntV q) : (encKI q x).length = 33 := by unfold encKI; rw [List.length_append, encK_len]; rfl
theorem encIK_len (q : IntKind) (x : IntV q × K32) : (encIK q x).length = 33 := by unfold encIK; rw [List.length_cons, encK_len]
theorem encKI_one (q : IntKind) (x : K32 × IntV q) : ∀ v ∈ encKI q x, v.oneCell' = true := by
  intro v hv
  rcases List.mem_append.1 hv with h | h
  · exact encK_one _ v h
  · rw [List.mem_singleton.1 h]; rfl
theorem encIK_one (q : IntKind) (x : IntV q × K32) : ∀ v ∈ encIK q x, v.oneCell' = true := by
  intro v hv
  rcases List.mem_cons.1 hv with h | h
  · rw [h]; rfl
  · exact encK_one _ v h
theorem trod_KI {q : IntKind} {f0 f1 : Field} {ti : TypeId} (hs : P.underlying t = some (.struct #[f0, f1])) (o0 : f0.offset = 0) (o1 : f1.offset = 32) (t0 : f0.type = tk) (t1 : f1.type = ti)
    (hk : P.underlying tk = some (.array 32 e)) (he : P.underlying e = some (.int .u8)) (hc : P.cellsOf e = 1) (hct : P.cellsOf tk = 32) (hi : P.underlying ti = some (.int q)) (hci : P.cellsOf ti = 1) (hC : P.cellsOf t = 33)
    (fuel : Nat) (cs : List Value) (x : DataW H × List MemPlace) (_ : cs.length = 33) (h : DataW.trod enc P w base spare held fuel t cs = some x) : ∃ a, cs = encKI q a := by
  obtain ⟨y0, y1, n, _, hl, h0, h1⟩ := trod_struct2 hs h
  rw [hC] at hl
  subst t0 t1
  rw [o0, hct] at h0
  rw [o1, hci] at h1
  obtain ⟨k, hk'⟩ := trod_key hk he hc (cut_len (by omega)) h0
  obtain ⟨z, hz⟩ := trod_intV hi h1
  refine ⟨(k, z), ?_⟩
  have hj := cut_two cs 32 1 (by omega)
  unfold cut at hk' hj
  rw [hj, hk', hz]
  rfl
theorem trod_IK {q : IntKind} {f0 f1 : Field} {ti : TypeId} (hs : P.underlying t = some (.struct #[f0, f1])) (o0 : f0.offset = 0) (o1 : f1.offset = 1) (t0 : f0.type = ti) (t1 : f1.type = tk)
    (hk : P.underlying tk = some (.array 32 e)) (he : P.underlying e = some (.int .u8)) (hc : P.cellsOf e = 1) (hct : P.cellsOf tk = 32) (hi : P.underlying ti = some (.int q)) (hci : P.cellsOf ti = 1) (hC : P.cellsOf t = 33)
    (fuel : Nat) (cs : List Value) (x : DataW H × List MemPlace) (_ : cs.length = 33) (h : DataW.trod enc P w base spare held fuel t cs = some x) : ∃ a, cs = encIK q a := by
  obtain ⟨y0, y1, n, _, hl, h0, h1⟩ := trod_struct2 hs h
  rw [hC] at hl
  subst t0 t1
  rw [o0, hci] at h0
  rw [o1, hct] at h1
  obtain ⟨z, hz⟩ := trod_intV hi h0
  obtain ⟨k, hk'⟩ := trod_key hk he hc (cut_len (by omega)) h1
  refine ⟨(z, k), ?_⟩
  have hj := cut_two cs 1 32 (by omega)
  unfold cut at hk' hj
  rw [hj, hk', hz]
  rfl
/-- what a transaction's fields are: two integers, a key, four lists -/
structure TxV where
  exp : IntV .u32
  ins : List (K32 × IntV .u32)
  outs : List (IntV .i64 × K32)
  anchor : K32
  nulls : List K32
  notes : List K32
  bal : IntV .i64
/-- its cells, the lists at these places -/
def txCells (T : TxV) (Ai : Option Addr) (ci : Nat) (Ao : Option Addr) (co : Nat) (An : Option Addr) (cn : Nat) (At : Option Addr) (ct : Nat) : List Value :=
  .int .u32 T.exp.1 :: .slice Ai T.ins.length ci :: .slice Ao T.outs.length co :: (encK T.anchor ++ [.slice An T.nulls.length cn, .slice At T.notes.length ct, .int .i64 T.bal.1])
/-- the lists lie so in a world -/
structure TxIn (w : World) (B : Nat) (T : TxV) (Ai : Option Addr) (ci : Nat) (Ao : Option Addr) (co : Nat) (An : Option Addr) (cn : Nat) (At : Option Addr) (ct : Nat) : Prop where
  ins : RowIn (encKI .u32) 33 w B Ai ci T.ins
  outs : RowIn (encIK .i64) 33 w B Ao co T.outs
  nulls : RowIn encK 32 w B An cn T.nulls
  notes : RowIn encK 32 w B At ct T.notes
theorem TxIn.below {w' : World} {B : Nat} {T : TxV} {Ai Ao An At : Option Addr} {ci co cn ct : Nat} (h : TxIn w B T Ai ci Ao co An cn At ct) (hb : Below B w w') : TxIn w' B T Ai ci Ao co An cn At ct :=
  ⟨h.ins.below hb, h.outs.below hb, h.nulls.below hb, h.notes.below hb⟩
theorem TxIn.more {B B' : Nat} {T : TxV} {Ai Ao An At : Option Addr} {ci co cn ct : Nat} (h : TxIn w B T Ai ci Ao co An cn At ct) (hB : B ≤ B') : TxIn w B' T Ai ci Ao co An cn At ct :=
  ⟨h.ins.more hB, h.outs.more hB, h.nulls.more hB, h.notes.more hB⟩
/-- what the types of a transaction are -/
structure TxTy (P : Program) (t : TypeId) where
  (u32 pts outs key ks i64 pt out e : TypeId)
  (f0 f1 f2 f3 f4 f5 f6 p0 p1 q0 q1 : Field)
  hs : P.underlying t = some (.struct #[f0, f1, f2, f3, f4, f5, f6])
  ho : [f0.offset, f1.offset, f2.offset, f3.offset, f4.offset, f5.offset, f6.offset] = [0, 1, 2, 3, 35, 36, 37]
  hf : [f0.type, f1.type, f2.type, f3.type, f4.type, f5.type, f6.type] = [u32, pts, outs, key, ks, ks, i64]
  hC : P.cellsOf t = 38
  hu32 : P.underlying u32 = some (.int .u32)
  cu32 : P.cellsOf u32 = 1
  hi64 : P.underlying i64 = some (.int .i64)
  ci64 : P.cellsOf i64 = 1
  he : P.underlying e = some (.int .u8)
  ce : P.cellsOf e = 1
  hkey : P.underlying key = some (.array 32 e)
  ckey : P.cellsOf key = 32
  hks : P.underlying ks = some (.slice key)
  cks : P.cellsOf ks = 1
  hpts : P.underlying pts = some (.slice pt)
  cpts : P.cellsOf pts = 1
  houts : P.underlying outs = some (.slice out)
  couts : P.cellsOf outs = 1
  hpt : P.underlying pt = some (.struct #[p0, p1])
  opt : [p0.offset, p1.offset] = [0, 32]
  fpt : [p0.type, p1.type] = [key, u32]
  cpt : P.cellsOf pt = 33
  hout : P.underlying out = some (.struct #[q0, q1])
  oout : [q0.offset, q1.offset] = [0, 1]
  fout : [q0.type, q1.type] = [i64, key]
  cout : P.cellsOf out = 33
theorem TxTy.trod (Y : TxTy P t) {fuel : Nat} {cs : List Value} {x : DataW H × List MemPlace} (h : DataW.trod enc P w base spare held fuel t cs = some x) :
    ∃ T Ai ci Ao co An cn At ct, cs = txCells T Ai ci Ao co An cn At ct ∧ TxIn w w.heap.size T Ai ci Ao co An cn At ct := by
  obtain ⟨xs, n, _, _, hl, hxl, hi⟩ := DataW.trod_struct Y.hs h
  rw [Y.hC] at hl
  have ho := Y.ho
  have hf := Y.hf
  simp only [List.cons.injEq, and_true] at ho hf
  obtain ⟨o0, o1, o2, o3, o4, o5, o6⟩ := ho
  obtain ⟨t0, t1, t2, t3, t4, t5, t6⟩ := hf
  have get : ∀ i, i < 7 → ∃ y, xs[i]? = some y := fun i h7 => ⟨_, List.getElem?_eq_getElem (by rw [hxl]; exact h7)⟩
  obtain ⟨y0, e0⟩ := get 0 (by omega)
  obtain ⟨y1, e1⟩ := get 1 (by omega)
  obtain ⟨y2, e2⟩ := get 2 (by omega)
  obtain ⟨y3, e3⟩ := get 3 (by omega)
  obtain ⟨y4, e4⟩ := get 4 (by omega)
  obtain ⟨y5, e5⟩ := get 5 (by omega)
  obtain ⟨y6, e6⟩ := get 6 (by omega)
  have h0 := (hi 0 Y.f0 rfl).trans e0
  have h1 := (hi 1 Y.f1 rfl).trans e1
  have h2 := (hi 2 Y.f2 rfl).trans e2
  have h3 := (hi 3 Y.f3 rfl).trans e3
  have h4 := (hi 4 Y.f4 rfl).trans e4
  have h5 := (hi 5 Y.f5 rfl).trans e5
  have h6 := (hi 6 Y.f6 rfl).trans e6
  clear hi get e0 e1 e2 e3 e4 e5 e6
  rw [o0, t0, Y.cu32] at h0
  rw [o1, t1, Y.cpts] at h1
  rw [o2, t2, Y.couts] at h2
  rw [o3, t3, Y.ckey] at h3
  rw [o4, t4, Y.cks] at h4
  rw [o5, t5, Y.cks] at h5
  rw [o6, t6, Y.ci64] at h6
  have opt := Y.opt
  have fpt := Y.fpt
  have oout := Y.oout
  have fout := Y.fout
  simp only [List.cons.injEq, and_true] at opt fpt oout fout
  obtain ⟨zx, hzx⟩ := trod_intV Y.hu32 h0
  obtain ⟨Ai, ci, li, hi, ri⟩ := trod_rows (encKI_len .u32) (by omega) Y.hpts Y.cpt (trod_KI Y.hpt opt.1 opt.2 fpt.1 fpt.2 Y.hkey Y.he Y.ce Y.ckey Y.hu32 Y.cu32 Y.cpt) h1
  obtain ⟨Ao, co, lo, ho, ro⟩ := trod_rows (encIK_len .i64) (by omega) Y.houts Y.cout (trod_IK Y.hout oout.1 oout.2 fout.1 fout.2 Y.hkey Y.he Y.ce Y.ckey Y.hi64 Y.ci64 Y.cout) h2
  obtain ⟨ka, hka⟩ := trod_key Y.hkey Y.he Y.ce (cut_len (by omega)) h3
  obtain ⟨An, cn, ln, hn, rn⟩ := trod_rows encK_len (by omega) Y.hks Y.ckey (fun f cs x hl h => trod_key Y.hkey Y.he Y.ce hl h) h4
  obtain ⟨At, ct, lt, ht, rt⟩ := trod_rows encK_len (by omega) Y.hks Y.ckey (fun f cs x hl h => trod_key Y.hkey Y.he Y.ce hl h) h5
  obtain ⟨zb, hzb⟩ := trod_intV Y.hi64 h6
  refine ⟨⟨zx, li, lo, ka, ln, lt, zb⟩, Ai, ci, Ao, co, An, cn, At, ct, ?_, ⟨ri, ro, rn, rt⟩⟩
  have hj : cs = cut cs 0 1 ++ (cut cs 1 1 ++ (cut cs 2 1 ++ (cut cs 3 32 ++ (cut cs 35 1 ++ (cut cs 36 1 ++ cut cs 37 1))))) := by
    rw [← cut_join, ← cut_join, ← cut_join, ← cut_join, ← cut_join, ← cut_join, cut_all _ _ hl]
  unfold cut at hj hka
  rw [hj, hzx, hi, ho, hka, hn, ht, hzb]
  rfl
theorem TxTy.open_ (Y : TxTy P t) {r : Reach} {b0 : Nat} {v : Value} {d : DataW H} {ps : List MemPlace} (hval : Value.okWide P w r b0 t v) (hd : DataW.Trod enc P w base spare held t v d ps) :
    ∃ T Ai ci Ao co An cn At ct, v = .agg (txCells T Ai ci Ao co An cn At ct).toArray ∧ TxIn w w.heap.size T Ai ci Ao co An cn At ct := by
  obtain ⟨cs, rfl, _⟩ := okWide_struct Y.hs hval
  obtain ⟨fuel, hf⟩ := hd
  obtain ⟨T, Ai, ci, Ao, co, An, cn, At, ct, h1, h2⟩ := Y.trod hf
  refine ⟨T, Ai, ci, Ao, co, An, cn, At, ct, ?_, h2⟩
  rw [← h1]
  simp [Value.cells]
end
end Go.Proofs.Ytimhophelecmjaa
/- '==' of two structs of a key and a number, or of a number and a key. Over any program. -/
namespace Go.Proofs.Ytimhophelecmjaa
open Go.RowKit
section
variable {P : Program} (w : World) {t tk ti e : TypeId} {q : IntKind} {f0 f1 : Field}
theorem run_eq_bytes_d (d : Nat) {n : Nat} (ht : P.underlying t = some (.array n e)) (hu : P.underlying e = some (.int .u8)) (hc : P.cellsOf e = 1) (l m : List UInt8) (hl : l.length = n) (hm : m.length = n) :
    (Op.equalIn (d + 2) t (.agg (bytesA l)) (.agg (bytesA m))).run P w = .ok (decide (l = m)) w := by
  obtain ⟨i, hi⟩ := info_of_underlying hu
  rw [show d + 2 = (d + 1) + 1 from rfl, run_equalIn_array w (d + 1) _ _ ht hi, hc, run_eqItems_bytes w d hu l m _ (fun j hj => by rw [List.mem_range] at hj; omega), ← hl, all_range_eq l m (by omega)]
theorem run_part_key (hk : P.underlying tk = some (.array 32 e)) (hct : P.cellsOf tk = 32) (cs : Array Value) (off : Nat) : (part tk cs off).run P w = .ok (.agg (cs.extract off (off + 32))) w := by
  obtain ⟨i, hi⟩ := info_of_underlying hk
  simp [part, isAgg, run_underlying hk, run_sizeOf w hi, hct]
theorem run_part_int (hi : P.underlying ti = some (.int q)) (cs : Array Value) (off : Nat) (v : Value) (hv : cs[off]? = some v) : (part ti cs off).run P w = .ok v w :=
  run_part_plain w (by simp [Program.plainKey, hi]) hv
theorem ki_key (x : K32 × IntV q) : (encKI q x).toArray.extract 0 32 = bytesA x.1.1 := by
  rw [← encK_arr]
  apply Array.toList_inj.1
  have hl := encK_len x.1
  simp [encKI, hl]
theorem ki_int (x : K32 × IntV q) : (encKI q x).toArray[32]? = some (.int q x.2.1) := by
  have hl := encK_len x.1
  simp [encKI, hl]
theorem ik_key (x : IntV q × K32) : (encIK q x).toArray.extract 1 33 = bytesA x.2.1 := by
  rw [← encK_arr]
  apply Array.toList_inj.1
  have hl := encK_len x.2
  simp [encIK, List.take_of_length_le (Nat.le_of_eq hl)]
theorem ik_int (x : IntV q × K32) : (encIK q x).toArray[0]? = some (.int q x.1.1) := by simp [encIK]
theorem run_eq_KI (hs : P.underlying t = some (.struct #[f0, f1])) (hp : P.stoodInHeld t = false) (n0 : f0.name ≠ "_") (n1 : f1.name ≠ "_") (o0 : f0.offset = 0) (o1 : f1.offset = 32) (t0 : f0.type = tk) (t1 : f1.type = ti)
    (hk : P.underlying tk = some (.array 32 e)) (he : P.underlying e = some (.int .u8)) (hc : P.cellsOf e = 1) (hct : P.cellsOf tk = 32) (hi : P.underlying ti = some (.int q)) (x y : K32 × IntV q) :
    (Op.equalIn 10000 t (.agg (encKI q x).toArray) (.agg (encKI q y).toArray)).run P w = .ok (decide (x = y)) w := by
  have hf : P.fieldsOf t = #[f0, f1] := by simp [Program.fieldsOf, hs]
  have e1 : (Op.equalIn 9999 tk (.agg (bytesA x.1.1)) (.agg (bytesA y.1.1))).run P w = .ok (decide (x.1.1 = y.1.1)) w := run_eq_bytes_d w 9997 hk he hc x.1.1 y.1.1 x.1.2 y.1.2
  have e2 : (Op.equalIn 9999 ti (.int q x.2.1) (.int q y.2.1)).run P w = .ok (x.2.1 == y.2.1) w := run_equalIn_int (P := P) w 9998 ti q q x.2.1 y.2.1 hi
  have px : (part tk (encKI q x).toArray 0).run P w = .ok (.agg (bytesA x.1.1)) w := by rw [run_part_key w hk hct, ki_key]
  have py : (part tk (encKI q y).toArray 0).run P w = .ok (.agg (bytesA y.1.1)) w := by rw [run_part_key w hk hct, ki_key]
  have qx := run_part_int w hi (encKI q x).toArray 32 _ (ki_int x)
  have qy := run_part_int w hi (encKI q y).toArray 32 _ (ki_int y)
  subst t0 t1
  rw [show 10000 = 9999 + 1 from rfl, run_equalIn_struct w 9999 t _ _ (by rw [hf]; exact hs) hp, hf]
  have hxy : x = y ↔ x.1.1 = y.1.1 ∧ x.2.1 = y.2.1 := ⟨fun h => h ▸ ⟨rfl, rfl⟩, fun h => Prod.ext (Subtype.ext h.1) (Subtype.ext h.2)⟩
  have hd : decide (x = y) = (decide (x.1.1 = y.1.1) && (x.2.1 == y.2.1)) := by
    rw [Bool.eq_iff_iff, decide_eq_true_iff, hxy, Bool.and_eq_true, decide_eq_true_iff, beq_iff_eq]
  rw [hd]
  generalize decide (x.1.1 = y.1.1) = b1 at e1 ⊢
  generalize (x.2.1 == y.2.1) = b2 at e2 ⊢
  cases b1 <;> cases b2 <;> simp [Op.eqFields, n0, n1, o0, o1, px, py, qx, qy, e1, e2]
theorem run_eq_IK (hs : P.underlying t = some (.struct #[f0, f1])) (hp : P.stoodInHeld t = false) (n0 : f0.name ≠ "_") (n1 : f1.name ≠ "_") (o0 : f0.offset = 0) (o1 : f1.offset = 1) (t0 : f0.type = ti) (t1 : f1.type = tk)
    (hk : P.underlying tk = some (.array 32 e)) (he : P.underlying e = some (.int .u8)) (hc : P.cellsOf e = 1) (hct : P.cellsOf tk = 32) (hi : P.underlying ti = some (.int q)) (x y : IntV q × K32) :
    (Op.equalIn 10000 t (.agg (encIK q x).toArray) (.agg (encIK q y).toArray)).run P w = .ok (decide (x = y)) w := by
  have hf : P.fieldsOf t = #[f0, f1] := by simp [Program.fieldsOf, hs]
  have e1 : (Op.equalIn 9999 tk (.agg (bytesA x.2.1)) (.agg (bytesA y.2.1))).run P w = .ok (decide (x.2.1 = y.2.1)) w := run_eq_bytes_d w 9997 hk he hc x.2.1 y.2.1 x.2.2 y.2.2
  have e2 : (Op.equalIn 9999 ti (.int q x.1.1) (.int q y.1.1)).run P w = .ok (x.1.1 == y.1.1) w := run_equalIn_int (P := P) w 9998 ti q q x.1.1 y.1.1 hi
  have px : (part tk (encIK q x).toArray 1).run P w = .ok (.agg (bytesA x.2.1)) w := by rw [run_part_key w hk hct, ik_key]
  have py : (part tk (encIK q y).toArray 1).run P w = .ok (.agg (bytesA y.2.1)) w := by rw [run_part_key w hk hct, ik_key]
  have qx := run_part_int w hi (encIK q x).toArray 0 _ (ik_int x)
  have qy := run_part_int w hi (encIK q y).toArray 0 _ (ik_int y)
  subst t0 t1
  rw [show 10000 = 9999 + 1 from rfl, run_equalIn_struct w 9999 t _ _ (by rw [hf]; exact hs) hp, hf]
  have hxy : x = y ↔ x.1.1 = y.1.1 ∧ x.2.1 = y.2.1 := ⟨fun h => h ▸ ⟨rfl, rfl⟩, fun h => Prod.ext (Subtype.ext h.1) (Subtype.ext h.2)⟩
  have hd : decide (x = y) = (decide (x.2.1 = y.2.1) && (x.1.1 == y.1.1)) := by
    rw [Bool.eq_iff_iff, decide_eq_true_iff, hxy, Bool.and_eq_true, decide_eq_true_iff, beq_iff_eq]; exact and_comm
  rw [hd]
  generalize decide (x.2.1 = y.2.1) = b1 at e1 ⊢
  generalize (x.1.1 == y.1.1) = b2 at e2 ⊢
  cases b1 <;> cases b2 <;> simp [Op.eqFields, n0, n1, o0, o1, px, py, qx, qy, e1, e2]
end
end Go.Proofs.Ytimhophelecmjaa
/- A block that holds a transaction: its fields read and stored. Over any program. -/
namespace Go.Proofs.Ytimhophelecmjaa
open Go.RowKit
section
variable {w : World} {g o : Nat} {a b : List Value}
theorem RowC.left (h : RowC w g o (a ++ b)) : RowC w g o a := fun j u hj => h j u (by rw [List.getElem?_append_left (List.getElem?_eq_some_iff.1 hj).1]; exact hj)
theorem RowC.right (h : RowC w g o (a ++ b)) : RowC w g (o + a.length) b := fun j u hj => by
  have := h (a.length + j) u (by rw [List.getElem?_append_right (by omega), Nat.add_sub_cancel_left]; exact hj)
  rwa [← Nat.add_assoc] at this
theorem RowC.head {v : Value} (h : RowC w g o (v :: b)) : w.cell? ⟨g, o, none⟩ = some v := h 0 v rfl
theorem RowC.tail {v : Value} (h : RowC w g o (v :: b)) : RowC w g (o + 1) b := fun j u hj => by
  have := h (j + 1) u (by simpa using hj)
  rwa [Nat.add_comm j 1, ← Nat.add_assoc] at this
theorem RowC.ki_key {q : IntKind} {x : K32 × IntV q} (h : RowC w g o (encKI q x)) : RowC w g o (encK x.1) := h.left
theorem RowC.ki_int {q : IntKind} {x : K32 × IntV q} (h : RowC w g o (encKI q x)) : w.cell? ⟨g, o + 32, none⟩ = some (.int q x.2.1) := by
  have := h.right
  rw [encK_len] at this
  exact this.head
theorem RowC.ik_int {q : IntKind} {x : IntV q × K32} (h : RowC w g o (encIK q x)) : w.cell? ⟨g, o, none⟩ = some (.int q x.1.1) := h.head
theorem RowC.ik_key {q : IntKind} {x : IntV q × K32} (h : RowC w g o (encIK q x)) : RowC w g (o + 1) (encK x.2) := h.tail
variable {T : TxV} {Ai Ao An At : Option Addr} {ci co cn ct : Nat}
theorem txCells_len : (txCells T Ai ci Ao co An cn At ct).length = 38 := by simp [txCells, encK_len]
theorem tx_anchor (h : RowC w g o (txCells T Ai ci Ao co An cn At ct)) : RowC w g (o + 3) (encK T.anchor) := by
  have h1 := (h.tail.tail.tail).left
  exact h1
theorem tx_behind (h : RowC w g o (txCells T Ai ci Ao co An cn At ct)) : RowC w g (o + 35) [.slice An T.nulls.length cn, .slice At T.notes.length ct, .int .i64 T.bal.1] := by
  have h1 := (h.tail.tail.tail).right
  rw [encK_len] at h1
  exact h1
theorem tx_exp (h : RowC w g o (txCells T Ai ci Ao co An cn At ct)) : w.cell? ⟨g, o, none⟩ = some (.int .u32 T.exp.1) := h.head
theorem tx_ins (h : RowC w g o (txCells T Ai ci Ao co An cn At ct)) : w.cell? ⟨g, o + 1, none⟩ = some (.slice Ai T.ins.length ci) := h.tail.head
theorem tx_outs (h : RowC w g o (txCells T Ai ci Ao co An cn At ct)) : w.cell? ⟨g, o + 2, none⟩ = some (.slice Ao T.outs.length co) := h.tail.tail.head
theorem tx_nulls (h : RowC w g o (txCells T Ai ci Ao co An cn At ct)) : w.cell? ⟨g, o + 35, none⟩ = some (.slice An T.nulls.length cn) := (tx_behind h).head
theorem tx_notes (h : RowC w g o (txCells T Ai ci Ao co An cn At ct)) : w.cell? ⟨g, o + 36, none⟩ = some (.slice At T.notes.length ct) := (tx_behind h).tail.head
theorem tx_bal (h : RowC w g o (txCells T Ai ci Ao co An cn At ct)) : w.cell? ⟨g, o + 37, none⟩ = some (.int .i64 T.bal.1) := (tx_behind h).tail.tail.head
/-- the whole block of a transaction -/
def TxBlk (w : World) (g : Nat) (t : TypeId) (T : TxV) (Ai : Option Addr) (ci : Nat) (Ao : Option Addr) (co : Nat) (An : Option Addr) (cn : Nat) (At : Option Addr) (ct : Nat) : Prop := Blk w g t (txCells T Ai ci Ao co An cn At ct).toArray
variable {t : TypeId}
theorem TxBlk.row (h : TxBlk w g t T Ai ci Ao co An cn At ct) : RowC w g 0 (txCells T Ai ci Ao co An cn At ct) := by
  have := RowC.of_blk h
  simpa using this
theorem set_app (k : List Value) (b : List Value) (i : Nat) (v : Value) : (k ++ b).set (k.length + i) v = k ++ b.set i v := by
  rw [List.set_append, if_neg (by omega), Nat.add_sub_cancel_left]
theorem tx_set_exp (z : IntV .u32) : (txCells T Ai ci Ao co An cn At ct).toArray.setIfInBounds 0 (.int .u32 z.1) = (txCells { T with exp := z } Ai ci Ao co An cn At ct).toArray := by simp [txCells]
theorem tx_set_ins (l : List (K32 × IntV .u32)) (A : Option Addr) (c : Nat) : (txCells T Ai ci Ao co An cn At ct).toArray.setIfInBounds 1 (.slice A l.length c) = (txCells { T with ins := l } A c Ao co An cn At ct).toArray := by simp [txCells]
theorem tx_set_outs (l : List (IntV .i64 × K32)) (A : Option Addr) (c : Nat) : (txCells T Ai ci Ao co An cn At ct).toArray.setIfInBounds 2 (.slice A l.length c) = (txCells { T with outs := l } Ai ci A c An cn At ct).toArray := by simp [txCells]
theorem tx_set_at (i : Nat) (v : Value) : (txCells T Ai ci Ao co An cn At ct).toArray.setIfInBounds (35 + i) v = (.int .u32 T.exp.1 :: .slice Ai T.ins.length ci :: .slice Ao T.outs.length co :: (encK T.anchor ++ [Value.slice An T.nulls.length cn, .slice At T.notes.length ct, .int .i64 T.bal.1].set i v)).toArray := by
  rw [List.setIfInBounds_toArray]
  unfold txCells
  rw [show 35 + i = (encK T.anchor).length + i + 1 + 1 + 1 by rw [encK_len]; omega, List.set_cons_succ, List.set_cons_succ, List.set_cons_succ, set_app]
theorem tx_set_nulls (l : List K32) (A : Option Addr) (c : Nat) : (txCells T Ai ci Ao co An cn At ct).toArray.setIfInBounds 35 (.slice A l.length c) = (txCells { T with nulls := l } Ai ci Ao co A c At ct).toArray := tx_set_at 0 _
theorem tx_set_notes (l : List K32) (A : Option Addr) (c : Nat) : (txCells T Ai ci Ao co An cn At ct).toArray.setIfInBounds 36 (.slice A l.length c) = (txCells { T with notes := l } Ai ci Ao co An cn A c).toArray := tx_set_at 1 _
theorem tx_set_bal (z : IntV .i64) : (txCells T Ai ci Ao co An cn At ct).toArray.setIfInBounds 37 (.int .i64 z.1) = (txCells { T with bal := z } Ai ci Ao co An cn At ct).toArray := tx_set_at 2 _
/-- the transaction of nothing -/
def txZero : TxV := ⟨⟨0, by decide⟩, [], [], ⟨List.replicate 32 0, by simp⟩, [], [], ⟨0, by decide⟩⟩
theorem txZero_cells : txCells txZero none 0 none 0 none 0 none 0 = .int .u32 0 :: .slice none 0 0 :: .slice none 0 0 :: (List.replicate 32 (.int .u8 0) ++ [.slice none 0 0, .slice none 0 0, .int .i64 0]) := by kernel_rfl
theorem txZero_in (B : Nat) : TxIn w B txZero none 0 none 0 none 0 none 0 := ⟨RowIn.nil (Nat.zero_le _), RowIn.nil (Nat.zero_le _), RowIn.nil (Nat.zero_le _), RowIn.nil (Nat.zero_le _)⟩
end
section
variable {P : Program} {t : TypeId} {T : TxV} {Ai Ao An At : Option Addr} {ci co cn ct : Nat}
/-- what a field of a transaction in hand is -/
theorem run_field_cell {fs : Array Field} (hs : P.underlying t = some (.struct fs)) (i off : Nat) (f : Field) (hf : fs[i]? = some f) (ho : f.offset = off) (ha : ∀ w, (isAgg f.type).run P w = .ok false w) (cs : Array Value) (v : Value) (hv : cs[off]? = some v) (w : World) :
    (Instr.field t (.agg cs) i).run P w = .ok v w := by
  subst ho
  simp [Instr.field, run_underlying hs, hf, asAgg, part, ha, hv]
theorem run_field_agg {fs : Array Field} (hs : P.underlying t = some (.struct fs)) (i off k : Nat) (f : Field) (hf : fs[i]? = some f) (ho : f.offset = off) (ha : ∀ w, (isAgg f.type).run P w = .ok true w) (hk : ∀ w, (sizeOf f.type).run P w = .ok k w) (cs : Array Value) (w : World) :
    (Instr.field t (.agg cs) i).run P w = .ok (.agg (cs.extract off (off + k))) w := by
  subst ho
  simp [Instr.field, run_underlying hs, hf, asAgg, part, ha, hk]
theorem tx_extract : (txCells T Ai ci Ao co An cn At ct).toArray.extract 3 35 = bytesA T.anchor.1 := by
  rw [← encK_arr]
  apply Array.toList_inj.1
  have hl := encK_len T.anchor
  simp [txCells, hl]
end
end Go.Proofs.Ytimhophelecmjaa
/- A parameter that is a slice of bools: read as a list of bools. Over any program. -/
namespace Go.Proofs.Ytimhophelecmjaa
open Go.RowKit Go.ChangeShapes Go.WideShapes
def encB (b : Bool) : List Value := [.bool b]
theorem encB_len (b : Bool) : (encB b).length = 1 := rfl
section
variable {H : Type} {enc : TypeId × Value → H} {P : Program} {w : World} {base : Nat} {spare : Nat → Bool} {held : Bool} {t e : TypeId} {v : Value} {d : DataW H} {ps : List MemPlace}
theorem open_bools {r : Reach} {b0 : Nat} (ht : P.underlying t = some (.slice e)) (he : P.underlying e = some .bool) (hc : P.cellsOf e = 1)
    (hval : Value.okWide P w r b0 t v) (hd : DataW.Trod enc P w base spare held t v d ps) : ∃ A c l, v = .slice A (l : List Bool).length c ∧ RowIn encB 1 w w.heap.size A c l := by
  obtain ⟨A, n, cap, rfl⟩ := okWide_slice ht hval
  obtain ⟨fuel, hf⟩ := hd
  rcases Deep.open_slice ht hf with ⟨hcs, _⟩ | ⟨a, len, c, m, n', D, Pl, hcs, _, hl, hm, hmm, _, hx⟩
  · simp [Value.cells] at hcs
    obtain ⟨rfl, rfl, rfl⟩ := hcs
    exact ⟨none, 0, [], rfl, RowIn.nil (Nat.zero_le _)⟩
  · simp [Value.cells] at hcs
    obtain ⟨rfl, rfl, rfl⟩ := hcs
    have hlm : n ≤ m := by rw [hmm]; split <;> omega
    rw [hc] at hx
    obtain ⟨f, hf'⟩ := Deep.choose_lt (n := n) (p := fun i (k : Bool) => w.cells? base (a.add (i * 1)) 1 = some (encB k)) (fun i hi => by
      obtain ⟨cs', h1, h2⟩ := hx i (by omega)
      obtain ⟨k, rfl, _⟩ := DataW.trod_bool he h2
      exact ⟨k, h1⟩)
    have hrow : ∀ j u, (cellsOf encB ((List.range n).map f))[j]? = some u → w.cell? (a.add j) = some u := by
      intro j u hj
      have hj' := (List.getElem?_eq_some_iff.1 hj).1
      rw [cellsOf_len encB_len, List.length_map, List.length_range] at hj'
      have hq : j < n := by omega
      rw [show j = j * 1 + 0 by omega, cellsOf_at encB_len _ j (by simpa using hq) 0 (by omega)] at hj
      simp only [List.getElem_map, List.getElem_range] at hj
      have h3 := (World.cells?_some (hf' j hq)).2.2 0 (by omega)
      rw [Deep.add_add, Nat.mul_one, Nat.add_zero] at h3
      rw [h3]
      simpa using hj
    refine ⟨some a, cap, (List.range n).map f, by simp, by simpa using hl, hm, fun hn => ?_⟩
    have hn0 : 0 < n := by
      rcases Nat.eq_zero_or_pos n with h0 | h0
      · subst h0; simp at hn
      · exact h0
    have hz : 0 < (cellsOf encB ((List.range n).map f)).length := by rw [cellsOf_len encB_len]; simp; omega
    have h0 := hrow 0 _ (List.getElem?_eq_getElem hz)
    obtain ⟨b, off, spot⟩ := a
    have hspot : spot = none := by simpa [Addr.add] using World.cell?_spot h0
    subst hspot
    refine ⟨b, off, rfl, ?_, fun j u hj => ?_⟩
    · have := World.block_lt_of_cell? w _ h0
      rwa [block_of_add] at this
    · have hadd : (⟨b, off, none⟩ : Addr).add j = ⟨b, off + j, none⟩ := by unfold Addr.add; split <;> simp_all
      rw [← hadd]; exact hrow j u hj
end
end Go.Proofs.Ytimhophelecmjaa
