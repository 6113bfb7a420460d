/- The project's set of coins, and its take. Written by genCoPU.py. -/
import Derived.Test.YtkjgmhamglhggaaCoPF
import Derived.Deep.RegionHeld3
namespace Go.Proofs.Ytkjgmhamglhggaa
open Go.RowKit
/-- a set of coins lies so: l what it has, q what went -/
structure SetV (base g : Nat) (fv v1 v2 : Value) (l q : List CoinV) (w : World) : Prop where
  blk : Blk w g 79 #[v1, v2, fv]
  low : base ≤ g
  o1 : w.ownsRow base 49 68 v1 l.length (cellsOf encC l)
  o2 : w.ownsRow base 49 68 v2 q.length (cellsOf encC q)
  ne : ∀ k, v1.ownBlock = some k → v2.ownBlock ≠ some k
theorem SetV.below {base g : Nat} {fv v1 v2 : Value} {l q : List CoinV} {w w' : World} (h : SetV base g fv v1 v2 l q w) (hb : Below w.heap.size w w') : SetV base g fv v1 v2 l q w' :=
  ⟨below_blk hb h.blk h.blk.lt, h.low, own_below h.o1 hb, own_below h.o2 hb, h.ne⟩
def SetW (base g : Nat) (fv : Value) (l q : List CoinV) (w : World) : Prop := ∃ v1 v2, SetV base g fv v1 v2 l q w
theorem SetW.below {base g : Nat} {fv : Value} {l q : List CoinV} {w w' : World} (h : SetW base g fv l q w) (hb : Below w.heap.size w w') : SetW base g fv l q w' := by
  obtain ⟨v1, v2, h⟩ := h
  exact ⟨v1, v2, h.below hb⟩
/-- all is as it was, but what D names (and what is new) -/
structure Fr (D : Nat → Prop) (w W : World) : Prop where
  os : W.os = w.os
  tape : W.tape = w.tape
  output : W.output = w.output
  size : w.heap.size ≤ W.heap.size
  block : ∀ b, b < w.heap.size → ¬ D b → W.heap[b]? = w.heap[b]?
theorem Fr.refl (D : Nat → Prop) (w : World) : Fr D w w := ⟨rfl, rfl, rfl, Nat.le_refl _, fun _ _ _ => rfl⟩
theorem Fr.call {D : Nat → Prop} {w W W' : World} (h : Fr D w W) (hb : Below W.heap.size W W') : Fr D w W' := ⟨hb.os.trans h.os, hb.tape.trans h.tape, hb.output.trans h.output, Nat.le_trans h.size hb.size, fun b hlt hd => (hb.block b (Nat.lt_of_lt_of_le hlt h.size)).trans (h.block b hlt hd)⟩
theorem Fr.alloc {D : Nat → Prop} {w W : World} (h : Fr D w W) (o : Obj) : Fr D w (W.alloc o) := h.call ((Below.refl _ _).alloc (Nat.le_refl _) o)
theorem Fr.drew {D : Nat → Prop} {w W : World} (h : Fr D w W) : Fr D w W.drew := ⟨h.os, h.tape, h.output, h.size, h.block⟩
theorem Fr.only {D : Nat → Prop} {w W W' : World} {g : Nat} (h : Fr D w W) (o : Only [g] W W') (hg : D g ∨ w.heap.size ≤ g) : Fr D w W' := ⟨o.os.trans h.os, o.tape.trans h.tape, o.output.trans h.output, Nat.le_trans h.size (Nat.le_of_eq o.size.symm), fun b hlt hd => (o.block b (fun hm => by
  rw [List.mem_singleton] at hm
  subst hm
  rcases hg with hg | hg
  · exact hd hg
  · omega)).trans (h.block b hlt hd)⟩
theorem Fr.grown {D : Nat → Prop} {w W W' : World} {row : Option Nat} (h : Fr D w W) (o : W.grownBy W' row) (hg : ∀ b, row = some b → D b ∨ w.heap.size ≤ b) : Fr D w W' := ⟨o.os.trans h.os, o.tape.trans h.tape, o.output.trans h.output, Nat.le_trans h.size o.size, fun b hlt hd => (o.block b (Nat.lt_of_lt_of_le hlt h.size) (fun e => by
  rcases hg b e.symm with hg | hg
  · exact hd hg
  · omega)).trans (h.block b hlt hd)⟩
theorem Fr.below {D : Nat → Prop} {w W : World} {base : Nat} (h : Fr D w W) (hD : ∀ b, D b → base ≤ b) (hB : base ≤ w.heap.size) : Below base w W := ⟨h.os, h.tape, h.output, h.size, fun b hlt => h.block b (by omega) (fun hd => by have := hD b hd; omega)⟩
/-- the blocks of a set -/
def InSet (g : Nat) (v1 v2 : Value) (b : Nat) : Prop := b = g ∨ v1.ownBlock = some b ∨ v2.ownBlock = some b
theorem SetV.in_low {base g : Nat} {fv v1 v2 : Value} {l q : List CoinV} {w : World} (h : SetV base g fv v1 v2 l q w) : ∀ b, InSet g v1 v2 b → base ≤ b := by
  rintro b (rfl | hb | hb)
  · exact h.low
  · exact own_base h.o1 b hb
  · exact own_base h.o2 b hb
theorem neCS : 49 ≠ 79 := by decide
theorem nePS : 49 ≠ 70 := by decide
/-- an own row's block is no set's -/
theorem own_far {w : World} {base g n : Nat} {t : TypeId} {cs : Array Value} {v : Value} {xs : List Value} (h : w.ownsRow base 49 68 v n xs) (hg : Blk w g t cs) (hne : 49 ≠ t) : ∀ b, v.ownBlock = some b → b ≠ g := fun _ hb e => own_blk_ne h hg hne (e ▸ hb)
/-- what take leaves of the coins -/
abbrev takP (p : PtV) (r : CoinV → Bool) : CoinV → Bool := fun x => decide (x.at_ = p) && r x
/-- the closure of take, in each world behind the one in which it was made -/
theorem take1_at (gp gs g : Nat) (p : PtV) (w : World) (v1 v2 : Value) (gf : Nat) (cb : Array Value) (r : CoinV → Bool) (hp : Blk w gp 32 (encKI .u32 p).toArray) (hs : Blk w gs 70 #[.pointer (some ⟨g, 0, none⟩)]) (hg : Blk w g 79 #[v1, v2, .func (.func gf) #[] cb])
    (eg : ∀ args w, (callFunc gf args).run Try.prog w = .ok (.enter gf args) w) (hm : ∀ c V, Below w.heap.size w V → Calls Try.prog gf (#[.agg (encC c).toArray] ++ cb) V fun e w' => e = .returned (.bool (r c)) ∧ Below V.heap.size V w') (x : CoinV) (W : World) (hW : Below w.heap.size w W) :
    Calls Try.prog 45 (#[.agg (encC x).toArray] ++ #[.pointer (some ⟨gp, 0, none⟩), .pointer (some ⟨gs, 0, none⟩)]) W fun e w' => e = .returned (.bool (takP p r x)) ∧ Below W.heap.size W w' := by
  by_cases h : x.at_ = p
  · have := take1_hit gp gs g p x W v1 v2 gf cb r (below_blk hW hp hp.lt) (below_blk hW hs hs.lt) (below_blk hW hg hg.lt) h eg (fun c V hV => hm c V (hW.trans (hV.mono hW.size)))
    unfold takP
    rw [decide_eq_true h, Bool.true_and]
    exact this
  · have := take1_not gp gs p x W (below_blk hW hp hp.lt) h
    unfold takP
    rw [decide_eq_false h, Bool.false_and]
    exact this
set_option maxRecDepth 20000 in
set_option maxHeartbeats 2000000 in
theorem take_not (base g gf : Nat) (cb : Array Value) (r : CoinV → Bool) (v1 v2 : Value) (l q : List CoinV) (p : PtV) (w : World) (hs : SetV base g (.func (.func gf) #[] cb) v1 v2 l q w) (eg : ∀ args w, (callFunc gf args).run Try.prog w = .ok (.enter gf args) w) (hm : ∀ c V, Below base w V → Calls Try.prog gf (#[.agg (encC c).toArray] ++ cb) V fun e w' => e = .returned (.bool (r c)) ∧ Below V.heap.size V w') (hl : l.length ≤ 1000) (hf : firstCo (takP p r) l = -1) :
    Calls Try.prog 28 #[.pointer (some ⟨g, 0, none⟩), .agg (encKI .u32 p).toArray] w fun e w' => e = .returned (.bool false) ∧ SetV base g (.func (.func gf) #[] cb) v1 v2 l q w' ∧ Below w.heap.size w w' := by
  obtain ⟨A, c, hv, hrow⟩ := RowIn.of_own encC_len hs.o1
  subst hv
  have B0 := Lib.hid (show Below w.heap.size w ((w.alloc (.cells #[.pointer (some ⟨g, 0, none⟩)] 70)).alloc (.cells (encKI .u32 p).toArray 32)) from ((Below.refl w.heap.size w).alloc (Nat.le_refl _) _).alloc (by simp) _)
  have KS := Lib.hid (show Blk ((w.alloc (.cells #[.pointer (some ⟨g, 0, none⟩)] 70)).alloc (.cells (encKI .u32 p).toArray 32)) w.heap.size 70 #[.pointer (some ⟨g, 0, none⟩)] from (Blk.new w 70 _).alloc _)
  have KP := Lib.hid (show Blk ((w.alloc (.cells #[.pointer (some ⟨g, 0, none⟩)] 70)).alloc (.cells (encKI .u32 p).toArray 32)) (w.heap.size + 1) 32 (encKI .u32 p).toArray from blk_new (g := w.heap.size + 1) 32 (encKI .u32 p).toArray (by simp))
  have V0 := Lib.hid (hs.below B0.out)
  have k1 : ((w.alloc (.cells #[.pointer (some ⟨g, 0, none⟩)] 70)).alloc (.cells (encKI .u32 p).toArray 32)).cell? ⟨w.heap.size, 0, none⟩ = some (.pointer (some ⟨g, 0, none⟩)) := KS.out.cell 0
  have k2 : ((w.alloc (.cells #[.pointer (some ⟨g, 0, none⟩)] 70)).alloc (.cells (encKI .u32 p).toArray 32)).cell? ⟨g, 0, none⟩ = some (.slice A l.length c) := V0.out.blk.cell 0
  have HB := Lib.hid (show base ≤ w.heap.size by have := hs.low; have := hs.blk.lt; omega)
  have HC := Lib.hid (cIndexFunc_any A c l ((w.alloc (.cells #[.pointer (some ⟨g, 0, none⟩)] 70)).alloc (.cells (encKI .u32 p).toArray 32)).heap.size ((w.alloc (.cells #[.pointer (some ⟨g, 0, none⟩)] 70)).alloc (.cells (encKI .u32 p).toArray 32)) (by omega) (Nat.le_refl _) (hrow.below B0.out |>.more B0.out.size) 45 #[.pointer (some ⟨w.heap.size + 1, 0, none⟩), .pointer (some ⟨w.heap.size, 0, none⟩)] (takP p r) entersT1
    (take1_at (w.heap.size + 1) w.heap.size g p ((w.alloc (.cells #[.pointer (some ⟨g, 0, none⟩)] 70)).alloc (.cells (encKI .u32 p).toArray 32)) (.slice A l.length c) v2 gf cb r KP.out KS.out V0.out.blk eg (fun c V hV => hm c V ((B0.out.mono HB.out).trans (hV.mono (Nat.le_trans HB.out B0.out.size))))))
  rw [hf] at HC
  clear hs hrow hf hm hl
  go_enter Try.func28, Try.ntmps28
  go_wp2_with fail
  refine HC.out.mono ?_
  rintro e w1 ⟨rfl, b1⟩
  have V1 := Lib.hid (V0.out.below b1)
  have B1 := Lib.hid (B0.out.trans (b1.mono B0.out.size))
  clear b1 V0 B0 k1 k2 HC
  go_wp2_with fail
  go_ret
  exact ⟨rfl, V1.out, B1.out⟩
theorem own_one {w : World} {base n : Nat} {e : TypeId} {k : Nat} {v : Value} {xs : List Value} (h : w.ownsRow base e k v n xs) : v.oneCell' = true := by
  obtain ⟨A, c, rfl⟩ := own_shape h
  rfl
set_option maxRecDepth 20000 in
set_option maxHeartbeats 4000000 in
theorem take_is (base g gf : Nat) (cb : Array Value) (r : CoinV → Bool) (v1 v2 : Value) (l q : List CoinV) (p : PtV) (w : World) (hs : SetV base g (.func (.func gf) #[] cb) v1 v2 l q w) (eg : ∀ args w, (callFunc gf args).run Try.prog w = .ok (.enter gf args) w) (hm : ∀ c V, Below base w V → Calls Try.prog gf (#[.agg (encC c).toArray] ++ cb) V fun e w' => e = .returned (.bool (r c)) ∧ Below V.heap.size V w') (hl : l.length ≤ 1000) (hql : q.length ≤ 1000) (j : Nat) (hj : j < l.length) (hf : firstCo (takP p r) l = (j : Int)) :
    Calls Try.prog 28 #[.pointer (some ⟨g, 0, none⟩), .agg (encKI .u32 p).toArray] w fun e w' => ∃ v1' v2', e = .returned (.bool true) ∧ SetV base g (.func (.func gf) #[] cb) v1' v2' (l.eraseIdx j) (q ++ [l[j]]) w' ∧ Fr (InSet g v1 v2) w w' ∧ v1'.ownBlock = v1.ownBlock ∧ (v2'.ownBlock = v2.ownBlock ∨ ∃ k, v2'.ownBlock = some k ∧ w.heap.size ≤ k) := by
  rcases hs.o1.2 with ⟨rfl, h0⟩ | ⟨gg, cap, cur, rfl, _⟩
  · omega
  obtain ⟨A, c, hv, hrow⟩ := RowIn.of_own encC_len hs.o1
  have hAc : A = some ⟨gg, 0, none⟩ ∧ c = cap := by injection hv with h1 _ h3; exact ⟨h1.symm, h3.symm⟩
  obtain ⟨rfl, rfl⟩ := hAc
  obtain ⟨x, hx⟩ : ∃ x, l[j] = x := ⟨_, rfl⟩
  rw [hx]
  obtain ⟨bb, hbb, hbl⟩ := czbC
  have HBB := Lib.hid hbb
  have B0 := Lib.hid (show Below w.heap.size w ((w.alloc (.cells #[.pointer (some ⟨g, 0, none⟩)] 70)).alloc (.cells (encKI .u32 p).toArray 32)) from ((Below.refl w.heap.size w).alloc (Nat.le_refl _) _).alloc (by simp) _)
  have KS := Lib.hid (show Blk ((w.alloc (.cells #[.pointer (some ⟨g, 0, none⟩)] 70)).alloc (.cells (encKI .u32 p).toArray 32)) w.heap.size 70 #[.pointer (some ⟨g, 0, none⟩)] from (Blk.new w 70 _).alloc _)
  have KP := Lib.hid (show Blk ((w.alloc (.cells #[.pointer (some ⟨g, 0, none⟩)] 70)).alloc (.cells (encKI .u32 p).toArray 32)) (w.heap.size + 1) 32 (encKI .u32 p).toArray from blk_new (g := w.heap.size + 1) 32 (encKI .u32 p).toArray (by simp))
  have V0 := Lib.hid (hs.below B0.out)
  have k1 : ((w.alloc (.cells #[.pointer (some ⟨g, 0, none⟩)] 70)).alloc (.cells (encKI .u32 p).toArray 32)).cell? ⟨w.heap.size, 0, none⟩ = some (.pointer (some ⟨g, 0, none⟩)) := KS.out.cell 0
  have k2 : ((w.alloc (.cells #[.pointer (some ⟨g, 0, none⟩)] 70)).alloc (.cells (encKI .u32 p).toArray 32)).cell? ⟨g, 0, none⟩ = some (.slice (some ⟨gg, 0, none⟩) l.length c) := V0.out.blk.cell 0
  have HB := Lib.hid (show base ≤ w.heap.size by have := hs.low; have := hs.blk.lt; omega)
  have HC := Lib.hid (cIndexFunc_any (some ⟨gg, 0, none⟩) c l ((w.alloc (.cells #[.pointer (some ⟨g, 0, none⟩)] 70)).alloc (.cells (encKI .u32 p).toArray 32)).heap.size ((w.alloc (.cells #[.pointer (some ⟨g, 0, none⟩)] 70)).alloc (.cells (encKI .u32 p).toArray 32)) (by omega) (Nat.le_refl _) (hrow.below B0.out |>.more B0.out.size) 45 #[.pointer (some ⟨w.heap.size + 1, 0, none⟩), .pointer (some ⟨w.heap.size, 0, none⟩)] (takP p r) entersT1
    (take1_at (w.heap.size + 1) w.heap.size g p ((w.alloc (.cells #[.pointer (some ⟨g, 0, none⟩)] 70)).alloc (.cells (encKI .u32 p).toArray 32)) (.slice (some ⟨gg, 0, none⟩) l.length c) v2 gf cb r KP.out KS.out V0.out.blk eg (fun c V hV => hm c V ((B0.out.mono HB.out).trans (hV.mono (Nat.le_trans HB.out B0.out.size))))))
  rw [hf] at HC
  have HX := Lib.hid (show ∀ V, V.ownsRow base 49 68 (.slice (some ⟨gg, 0, none⟩) l.length c) l.length (cellsOf encC l) → RowC V gg (j * 68) (encC x) from fun V h => by
    have := (own_row encC_len h).1.at encC_len hj
    rw [hx, Nat.zero_add] at this
    exact this)
  have HJ := Lib.hid hj
  have HLL := Lib.hid hl
  have HQL := Lib.hid hql
  have HNE := Lib.hid hs.ne
  have HLOW := Lib.hid hs.low
  have HG := Lib.hid hs.blk.lt
  have hi0 : (0 : Int) ≤ (j : Int) := by omega
  have hi1 : (j : Int) < (l.length : Int) := by omega
  have hng : decide ((j : Int) < 0) = false := by simp
  have hwj : IntKind.i64.wrap ((j : Int) + 1) = (j : Int) + 1 := by rw [IntKind.wrap_i64]; omega
  clear hs hrow hf hm hl hql hx hj hbb hv KP
  go_enter Try.func28, Try.ntmps28
  go_wp2_with fail
  refine HC.out.mono ?_
  rintro e w1 ⟨rfl, b1⟩
  have V1 := Lib.hid (V0.out.below b1)
  have KS1 := Lib.hid (below_blk b1 KS.out KS.out.lt)
  have B1 := Lib.hid ((Fr.refl (InSet g (.slice (some ⟨gg, 0, none⟩) l.length c) v2) w).call (B0.out.trans (b1.mono B0.out.size)))
  clear b1 V0 B0 k1 k2 HC KS
  go_wp2_with fail
  have KS := Lib.hid KS1.out.drew
  have KB := Lib.hid V1.out.blk.drew
  have O1 := Lib.hid (own_drew V1.out.o1)
  have O2 := Lib.hid (own_drew V1.out.o2)
  have BB := Lib.hid B1.out.drew
  clear KS1 V1 B1
  refine wp_region_held_drew (S := fun V => V.cell? ⟨w.heap.size, 0, none⟩ = some (.pointer (some ⟨g, 0, none⟩)) ∧ V.cell? ⟨g, 0, none⟩ = some (.slice (some ⟨gg, 0, none⟩) l.length c) ∧ RowC V gg (j * 68) (encC x)) (by kernel_rfl) ⟨KS.out.cell 0, KB.out.cell 0, HX.out _ O1.out⟩ ?_
  intro hS
  refine wpAnyH_take (i := 0) (v := .pointer (some ⟨g, 0, none⟩)) rfl (by kernel_rfl) (by kernel_rfl) (by kernel_rfl) (fun _ _ _ h => h) (yieldsIf_cell (by rfl) 70 (.tmp 2) rfl ⟨w.heap.size, 0, none⟩ rfl (.pointer (some ⟨g, 0, none⟩)) Try.isAgg70 (fun _ h => h.1)) hS ?_
  simp only [Act.put, List.getElem_toArray, List.getElem_cons_zero, List.setIfInBounds_toArray, List.set_cons_succ, List.set_cons_zero]
  refine wpAnyH_take (i := 1) (v := .pointer (some ⟨g, 0, none⟩)) rfl (by kernel_rfl) (by kernel_rfl) (by kernel_rfl) (fun _ _ _ h => h) (yieldsIf_cell (by rfl) 70 (.tmp 2) rfl ⟨w.heap.size, 0, none⟩ rfl (.pointer (some ⟨g, 0, none⟩)) Try.isAgg70 (fun _ h => h.1)) hS ?_
  simp only [Act.put, List.getElem_toArray, List.getElem_cons_zero, List.getElem_cons_succ, List.setIfInBounds_toArray, List.set_cons_succ, List.set_cons_zero]
  refine wpAnyH_take (i := 2) (v := .pointer (some ⟨g, 0, none⟩)) rfl (by kernel_rfl) (by kernel_rfl) (by kernel_rfl) (fun _ _ _ h => h) (Or.inl ⟨by rfl, fun W _ => by go_simp; try with_reducible rfl⟩) hS ?_
  simp only [Act.put, List.getElem_toArray, List.getElem_cons_zero, List.getElem_cons_succ, List.setIfInBounds_toArray, List.set_cons_succ, List.set_cons_zero]
  refine wpAnyH_take (i := 3) (v := .pointer (some ⟨g, 1, none⟩)) rfl (by kernel_rfl) (by kernel_rfl) (by kernel_rfl) (fun _ _ _ h => h) (Or.inl ⟨by rfl, fun W _ => by go_simp; try with_reducible rfl⟩) hS ?_
  simp only [Act.put, List.getElem_toArray, List.getElem_cons_zero, List.getElem_cons_succ, List.setIfInBounds_toArray, List.set_cons_succ, List.set_cons_zero]
  refine wpAnyH_take (i := 5) (v := .pointer (some ⟨g, 0, none⟩)) rfl (by kernel_rfl) (by kernel_rfl) (by kernel_rfl) (fun _ _ _ h => h) (yieldsIf_cell (by rfl) 70 (.tmp 2) rfl ⟨w.heap.size, 0, none⟩ rfl (.pointer (some ⟨g, 0, none⟩)) Try.isAgg70 (fun _ h => h.1)) hS ?_
  simp only [Act.put, List.getElem_toArray, List.getElem_cons_zero, List.getElem_cons_succ, List.setIfInBounds_toArray, List.set_cons_succ, List.set_cons_zero]
  refine wpAnyH_take (i := 6) (v := .pointer (some ⟨g, 0, none⟩)) rfl (by kernel_rfl) (by kernel_rfl) (by kernel_rfl) (fun _ _ _ h => h) (Or.inl ⟨by rfl, fun W _ => by go_simp; try with_reducible rfl⟩) hS ?_
  simp only [Act.put, List.getElem_toArray, List.getElem_cons_zero, List.getElem_cons_succ, List.setIfInBounds_toArray, List.set_cons_succ, List.set_cons_zero]
  refine wpAnyH_take (i := 7) (v := .pointer (some ⟨g, 0, none⟩)) rfl (by kernel_rfl) (by kernel_rfl) (by kernel_rfl) (fun _ _ _ h => h) (Or.inl ⟨by rfl, fun W _ => by go_simp; try with_reducible rfl⟩) hS ?_
  simp only [Act.put, List.getElem_toArray, List.getElem_cons_zero, List.getElem_cons_succ, List.setIfInBounds_toArray, List.set_cons_succ, List.set_cons_zero]
  refine wpAnyH_take (i := 8) (v := .slice (some ⟨gg, 0, none⟩) l.length c) rfl (by kernel_rfl) (by kernel_rfl) (by kernel_rfl) (fun _ _ _ h => h) (yieldsIf_cell (by rfl) 22 (.tmp 21) rfl ⟨g, 0, none⟩ rfl (.slice (some ⟨gg, 0, none⟩) l.length c) Try.isAgg22 (fun _ h => h.2.1)) hS ?_
  simp only [Act.put, List.getElem_toArray, List.getElem_cons_zero, List.getElem_cons_succ, List.setIfInBounds_toArray, List.set_cons_succ, List.set_cons_zero]
  refine wpAnyH_take (i := 9) (v := .int .i64 j) rfl (by kernel_rfl) (by kernel_rfl) (by kernel_rfl) (fun _ _ _ h => h) (Or.inl ⟨by rfl, fun W _ => by go_simp; try with_reducible rfl⟩) hS ?_
  simp only [Act.put, List.getElem_toArray, List.getElem_cons_zero, List.getElem_cons_succ, List.setIfInBounds_toArray, List.set_cons_succ, List.set_cons_zero]
  refine wpAnyH_take (i := 10) (v := .pointer (some ⟨gg, j * 68, none⟩)) rfl (by kernel_rfl) (by kernel_rfl) (by kernel_rfl) (fun _ _ _ h => h) (Or.inl ⟨by rfl, fun W _ => by go_simp; try with_reducible rfl⟩) hS ?_
  simp only [Act.put, List.getElem_toArray, List.getElem_cons_zero, List.getElem_cons_succ, List.setIfInBounds_toArray, List.set_cons_succ, List.set_cons_zero]
  refine wpAnyH_take (i := 11) (v := .agg (encC x).toArray) rfl (by kernel_rfl) (by kernel_rfl) (by kernel_rfl) (fun _ _ _ h => h) (tyCoc.yieldsIf_load (by rfl) (.tmp 24) rfl gg (j * 68) rfl x (fun _ h => h.2.2)) hS ?_
  simp only [Act.put, List.getElem_toArray, List.getElem_cons_zero, List.getElem_cons_succ, List.setIfInBounds_toArray, List.set_cons_succ, List.set_cons_zero]
  refine wpAnyH_ready (rs := [4, 12]) (by kernel_rfl) (by simp) ?_
  refine AllReadyH.cons rfl (fun Kq hK => ?_) (AllReadyH.cons rfl (fun Kq hK => ?_) AllReadyH.nil)
  · refine step_load_one (by rfl) 22 (.tmp 17) rfl ⟨g, 1, none⟩ rfl v2 Try.isAgg22 (KB.out.cell 1) ?_
    refine hK.out _ _ ⟨KS.out.cell 0, KB.out.cell 0, HX.out _ O1.out⟩ (fun hS => ?_)
    clear hK Kq
    try simp only [Act.put, List.getElem_toArray, List.getElem_cons_zero, List.getElem_cons_succ, List.setIfInBounds_toArray, List.set_cons_succ, List.set_cons_zero]
    refine wpAnyH_ready (rs := [12]) (by kernel_rfl) (by simp) ?_
    refine AllReadyH.cons rfl (fun Kq hK => ?_) AllReadyH.nil
    refine tyCo.step_build rfl czsC 1 _ rfl [x] rfl (by omega) (by omega) (by kernel_rfl) ?_
    have L1 := Lib.hid (Blk.new (w1.drew) 49 (cellsOf encC [x]).toArray)
    have KS2 := Lib.hid (KS.out.alloc (.cells (cellsOf encC [x]).toArray 49))
    have KB2 := Lib.hid (KB.out.alloc (.cells (cellsOf encC [x]).toArray 49))
    have O12 := Lib.hid (own_below O1.out ((Below.refl _ _).alloc (Nat.le_refl _) (.cells (cellsOf encC [x]).toArray 49)))
    have O22 := Lib.hid (own_below O2.out ((Below.refl _ _).alloc (Nat.le_refl _) (.cells (cellsOf encC [x]).toArray 49)))
    have BB2 := Lib.hid (BB.out.alloc (.cells (cellsOf encC [x]).toArray 49))
    clear KS KB O1 O2 BB
    have KS := KS2
    have KB := KB2
    have O1 := O12
    have O2 := O22
    have BB := BB2
    clear KS2 KB2 O12 O22 BB2
    refine hK.out _ _ ⟨KS.out.cell 0, KB.out.cell 0, HX.out _ O1.out⟩ (fun hS => ?_)
    clear hK Kq
    try simp only [Act.put, List.getElem_toArray, List.getElem_cons_zero, List.getElem_cons_succ, List.setIfInBounds_toArray, List.set_cons_succ, List.set_cons_zero]
    refine wpAnyH_ready (rs := [13]) (by kernel_rfl) (by simp) ?_
    refine AllReadyH.cons rfl (fun Kq hK => ?_) AllReadyH.nil
    refine tyCo.step_append_at rfl czcC bb HBB.out hbl (.tmp 18) (.tmp 26) rfl base v2 q rfl O2.out _ _ 1 [x] rfl (rowIn_blk L1.out (by simp) (by decide)) (by have := HQL.out; simp only [List.length_singleton]; omega) (Nat.le_trans HB.out BB.out.size |> fun h => Nat.le_trans (Nat.le_refl _) h) ?_
    intro v4 w4 p4 g4 q4
    have NE4 := Lib.hid (show ∀ k, (.slice (some ⟨gg, 0, none⟩) l.length c : Value).ownBlock = some k → v4.ownBlock ≠ some k from fun k hk => by
      rcases q4 with q4 | q4
      · rw [q4]; exact HNE.out k hk
      · rw [q4]; intro e; have h1 := own_lt O1.out k hk; have := Option.some.inj e; omega)
    have OV4 := Lib.hid p4
    have KS2 := Lib.hid (KS.out.grown g4 (fun e => own_far O2.out KS.out nePS _ e.symm rfl))
    have KB2 := Lib.hid (KB.out.grown g4 (fun e => own_far O2.out KB.out neCS _ e.symm rfl))
    have O12 := Lib.hid (own_keep O1.out (fun b hb hlt => g4.block b hlt (fun e => HNE.out b hb e.symm)))
    have O22 := Lib.hid (OV4.out)
    have BB2 := Lib.hid (BB.out.grown g4 (fun b hb => .inl (.inr (.inr hb))))
    have NW4 := Lib.hid (show v4.ownBlock = v2.ownBlock ∨ ∃ k, v4.ownBlock = some k ∧ w.heap.size ≤ k from q4.imp id fun e => ⟨_, e, BB.out.size⟩)
    clear OV4 p4 g4 q4 L1
    clear KS KB O1 O2 BB
    have KS := KS2
    have KB := KB2
    have O1 := O12
    have O2 := O22
    have BB := BB2
    clear KS2 KB2 O12 O22 BB2
    refine hK.out _ _ ⟨KS.out.cell 0, KB.out.cell 0, HX.out _ O1.out⟩ (fun hS => ?_)
    clear hK Kq
    try simp only [Act.put, List.getElem_toArray, List.getElem_cons_zero, List.getElem_cons_succ, List.setIfInBounds_toArray, List.set_cons_succ, List.set_cons_zero]
    refine wpAnyH_take (i := 14) (v := .pointer (some ⟨g, 0, none⟩)) rfl (by kernel_rfl) (by kernel_rfl) (by kernel_rfl) (fun _ _ _ h => h) (Or.inl ⟨by rfl, fun W _ => by go_simp; try with_reducible rfl⟩) hS ?_
    simp only [Act.put, List.getElem_toArray, List.getElem_cons_zero, List.getElem_cons_succ, List.setIfInBounds_toArray, List.set_cons_succ, List.set_cons_zero]
    refine wpAnyH_take (i := 15) (v := .pointer (some ⟨g, 1, none⟩)) rfl (by kernel_rfl) (by kernel_rfl) (by kernel_rfl) (fun _ _ _ h => h) (Or.inl ⟨by rfl, fun W _ => by go_simp; try with_reducible rfl⟩) hS ?_
    simp only [Act.put, List.getElem_toArray, List.getElem_cons_zero, List.getElem_cons_succ, List.setIfInBounds_toArray, List.set_cons_succ, List.set_cons_zero]
    refine wpAnyH_ready (rs := [16]) (by kernel_rfl) (by simp) ?_
    refine AllReadyH.cons rfl (fun Kq hK => ?_) AllReadyH.nil
    refine step_store_cell rfl 22 (.tmp 29) (.tmp 27) rfl rfl g 1 v4 rfl rfl (own_one O2.out) 79 _ KB.out (by simp) (by kernel_rfl) ?_
    intro w5 o5 b5
    have KBX := Lib.hid b5
    have KS2 := Lib.hid (o5.blk KS.out (by have := HG.out; simp; omega))
    have KB2 := Lib.hid (KBX.out)
    have O12 := Lib.hid (own_keep O1.out (fun b hb _ => o5.block b (by have := own_far O1.out KB.out neCS b hb; simpa using this)))
    have O22 := Lib.hid (own_keep O2.out (fun b hb _ => o5.block b (by have := own_far O2.out KB.out neCS b hb; simpa using this)))
    have BB2 := Lib.hid (BB.out.only o5 (.inl (.inl rfl)))
    clear o5 b5 KBX KS KB O1 O2 BB
    have KS := KS2
    have KB := KB2
    have O1 := O12
    have O2 := O22
    have BB := BB2
    clear KS2 KB2 O12 O22 BB2
    refine hK.out _ _ ⟨KS.out.cell 0, KB.out.cell 0, HX.out _ O1.out⟩ (fun hS => ?_)
    clear hK Kq
    try simp only [Act.put, List.getElem_toArray, List.getElem_cons_zero, List.getElem_cons_succ, List.setIfInBounds_toArray, List.set_cons_succ, List.set_cons_zero]
    refine wpAnyH_done (by kernel_rfl) ?_ _
    clear hS
    have HNEX := Lib.hid NE4.out
    go_wp2_with fail
    refine wp_region_held_drew (S := fun V => V.cell? ⟨w.heap.size, 0, none⟩ = some (.pointer (some ⟨g, 0, none⟩))) (by kernel_rfl) (KS.out.drew.cell 0) ?_
    intro hS
    refine wpAnyH_take (i := 0) (v := .pointer (some ⟨g, 0, none⟩)) rfl (by kernel_rfl) (by kernel_rfl) (by kernel_rfl) (fun _ _ _ h => h) (yieldsIf_cell (by rfl) 70 (.tmp 2) rfl ⟨w.heap.size, 0, none⟩ rfl (.pointer (some ⟨g, 0, none⟩)) Try.isAgg70 (fun _ h => h)) hS ?_
    simp only [Act.put, List.getElem_toArray, List.getElem_cons_zero, List.setIfInBounds_toArray, List.set_cons_succ, List.set_cons_zero]
    refine wpAnyH_take (i := 1) (v := .pointer (some ⟨g, 0, none⟩)) rfl (by kernel_rfl) (by kernel_rfl) (by kernel_rfl) (fun _ _ _ h => h) (yieldsIf_cell (by rfl) 70 (.tmp 2) rfl ⟨w.heap.size, 0, none⟩ rfl (.pointer (some ⟨g, 0, none⟩)) Try.isAgg70 (fun _ h => h)) hS ?_
    simp only [Act.put, List.getElem_toArray, List.getElem_cons_zero, List.getElem_cons_succ, List.setIfInBounds_toArray, List.set_cons_succ, List.set_cons_zero]
    refine wpAnyH_take (i := 2) (v := .pointer (some ⟨g, 0, none⟩)) rfl (by kernel_rfl) (by kernel_rfl) (by kernel_rfl) (fun _ _ _ h => h) (Or.inl ⟨by rfl, fun W _ => by go_simp; try with_reducible rfl⟩) hS ?_
    simp only [Act.put, List.getElem_toArray, List.getElem_cons_zero, List.getElem_cons_succ, List.setIfInBounds_toArray, List.set_cons_succ, List.set_cons_zero]
    refine wpAnyH_take (i := 3) (v := .pointer (some ⟨g, 0, none⟩)) rfl (by kernel_rfl) (by kernel_rfl) (by kernel_rfl) (fun _ _ _ h => h) (Or.inl ⟨by rfl, fun W _ => by go_simp; try with_reducible rfl⟩) hS ?_
    simp only [Act.put, List.getElem_toArray, List.getElem_cons_zero, List.getElem_cons_succ, List.setIfInBounds_toArray, List.set_cons_succ, List.set_cons_zero]
    refine wpAnyH_take (i := 5) (v := .int .i64 j) rfl (by kernel_rfl) (by kernel_rfl) (by kernel_rfl) (fun _ _ _ h => h) (Or.inl ⟨by rfl, fun W _ => by go_simp; try with_reducible rfl⟩) hS ?_
    simp only [Act.put, List.getElem_toArray, List.getElem_cons_zero, List.getElem_cons_succ, List.setIfInBounds_toArray, List.set_cons_succ, List.set_cons_zero]
    refine wpAnyH_take (i := 6) (v := .int .i64 j) rfl (by kernel_rfl) (by kernel_rfl) (by kernel_rfl) (fun _ _ _ h => h) (Or.inl ⟨by rfl, fun W _ => by go_simp; try with_reducible rfl⟩) hS ?_
    simp only [Act.put, List.getElem_toArray, List.getElem_cons_zero, List.getElem_cons_succ, List.setIfInBounds_toArray, List.set_cons_succ, List.set_cons_zero]
    refine wpAnyH_take (i := 7) (v := .int .i64 ((j : Int) + 1)) rfl (by kernel_rfl) (by kernel_rfl) (by kernel_rfl) (fun _ _ _ h => h) (Or.inl ⟨by rfl, fun W _ => by go_simp; try with_reducible rfl⟩) hS ?_
    simp only [Act.put, List.getElem_toArray, List.getElem_cons_zero, List.getElem_cons_succ, List.setIfInBounds_toArray, List.set_cons_succ, List.set_cons_zero]
    refine wpAnyH_ready (rs := [4]) (by kernel_rfl) (by simp) ?_
    refine AllReadyH.cons rfl (fun Kq hK => ?_) AllReadyH.nil
    refine step_load_one (by rfl) 22 (.tmp 33) rfl ⟨g, 0, none⟩ rfl (.slice (some ⟨gg, 0, none⟩) l.length c) Try.isAgg22 (KB.out.drew.cell 0) ?_
    refine hK.out _ _ (KS.out.drew.cell 0) (fun hS => ?_)
    clear hK Kq
    try simp only [Act.put, List.getElem_toArray, List.getElem_cons_zero, List.getElem_cons_succ, List.setIfInBounds_toArray, List.set_cons_succ, List.set_cons_zero]
    refine wpAnyH_ready (rs := [8]) (by kernel_rfl) (by simp) ?_
    refine AllReadyH.cons rfl (fun Kq hK => ?_) AllReadyH.nil
    go_simp
    with_reducible refine (cDelete_own base gg c j l _ (own_drew O1.out) HJ.out (by have := HLL.out; omega)).mono ?_
    rintro e w6 ⟨rfl, o6, r6⟩
    have KB6 := Lib.hid (o6.blk KB.out.drew (by have := own_far O1.out KB.out neCS gg rfl; simpa using fun e => this e.symm))
    have KS6 := Lib.hid (o6.blk KS.out.drew (by have := own_far O1.out KS.out nePS gg rfl; simpa using fun e => this e.symm))
    have O16 := Lib.hid r6
    have O26 := Lib.hid (own_keep (own_drew O2.out) (fun b hb _ => o6.block b (by have := HNEX.out gg rfl; intro h; rw [List.mem_singleton] at h; subst h; exact this hb)))
    have BB6 := Lib.hid (BB.out.drew.only o6 (.inl (.inr (.inl rfl))))
    refine hK.out _ _ (KS6.out.cell 0) (fun hS => ?_)
    clear hK Kq o6 r6 KB KS O1 O2 BB
    try simp only [Act.put, List.getElem_toArray, List.getElem_cons_zero, List.getElem_cons_succ, List.setIfInBounds_toArray, List.set_cons_succ, List.set_cons_zero]
    refine wpAnyH_take (i := 9) (v := .pointer (some ⟨g, 0, none⟩)) rfl (by kernel_rfl) (by kernel_rfl) (by kernel_rfl) (fun _ _ _ h => h) (Or.inl ⟨by rfl, fun W _ => by go_simp; try with_reducible rfl⟩) hS ?_
    simp only [Act.put, List.getElem_toArray, List.getElem_cons_zero, List.getElem_cons_succ, List.setIfInBounds_toArray, List.set_cons_succ, List.set_cons_zero]
    refine wpAnyH_take (i := 10) (v := .pointer (some ⟨g, 0, none⟩)) rfl (by kernel_rfl) (by kernel_rfl) (by kernel_rfl) (fun _ _ _ h => h) (Or.inl ⟨by rfl, fun W _ => by go_simp; try with_reducible rfl⟩) hS ?_
    simp only [Act.put, List.getElem_toArray, List.getElem_cons_zero, List.getElem_cons_succ, List.setIfInBounds_toArray, List.set_cons_succ, List.set_cons_zero]
    refine wpAnyH_ready (rs := [11]) (by kernel_rfl) (by simp) ?_
    refine AllReadyH.cons rfl (fun Kq hK => ?_) AllReadyH.nil
    refine step_store_cell rfl 22 (.tmp 40) (.tmp 38) rfl rfl g 0 (.slice (some ⟨gg, 0, none⟩) (l.eraseIdx j).length c) rfl rfl rfl 79 _ KB6.out (by simp) (by kernel_rfl) ?_
    intro w7 o7 b7
    have SV := Lib.hid (show SetV base g (.func (.func gf) #[] cb) (.slice (some ⟨gg, 0, none⟩) (l.eraseIdx j).length c) v4 (l.eraseIdx j) (q ++ [x]) w7 from
      ⟨b7, HLOW.out, own_keep O16.out (fun b hb _ => o7.block b (by have := own_far O16.out KB6.out neCS b hb; simpa using this)), own_keep O26.out (fun b hb _ => o7.block b (by have := own_far O26.out KB6.out neCS b hb; simpa using this)), fun k hk => HNEX.out k hk⟩)
    have B7 := Lib.hid (BB6.out.only o7 (.inl (.inl rfl)))
    refine hK.out _ _ (o7.blk KS6.out (by have := HG.out; simp; omega) |>.cell 0) (fun hS => ?_)
    clear hK Kq o7 b7 KB6 KS6 O16 O26 BB6
    refine wpAnyH_done (by kernel_rfl) ?_ _
    go_wp2_with fail
    go_ret
    exact ⟨_, v4, rfl, SV.out, B7.out, rfl, NW4.out⟩
  · refine tyCo.step_build rfl czsC 1 _ rfl [x] rfl (by omega) (by omega) (by kernel_rfl) ?_
    have L1 := Lib.hid (Blk.new (w1.drew) 49 (cellsOf encC [x]).toArray)
    have KS2 := Lib.hid (KS.out.alloc (.cells (cellsOf encC [x]).toArray 49))
    have KB2 := Lib.hid (KB.out.alloc (.cells (cellsOf encC [x]).toArray 49))
    have O12 := Lib.hid (own_below O1.out ((Below.refl _ _).alloc (Nat.le_refl _) (.cells (cellsOf encC [x]).toArray 49)))
    have O22 := Lib.hid (own_below O2.out ((Below.refl _ _).alloc (Nat.le_refl _) (.cells (cellsOf encC [x]).toArray 49)))
    have BB2 := Lib.hid (BB.out.alloc (.cells (cellsOf encC [x]).toArray 49))
    clear KS KB O1 O2 BB
    have KS := KS2
    have KB := KB2
    have O1 := O12
    have O2 := O22
    have BB := BB2
    clear KS2 KB2 O12 O22 BB2
    refine hK.out _ _ ⟨KS.out.cell 0, KB.out.cell 0, HX.out _ O1.out⟩ (fun hS => ?_)
    clear hK Kq
    try simp only [Act.put, List.getElem_toArray, List.getElem_cons_zero, List.getElem_cons_succ, List.setIfInBounds_toArray, List.set_cons_succ, List.set_cons_zero]
    refine wpAnyH_ready (rs := [4]) (by kernel_rfl) (by simp) ?_
    refine AllReadyH.cons rfl (fun Kq hK => ?_) AllReadyH.nil
    refine step_load_one (by rfl) 22 (.tmp 17) rfl ⟨g, 1, none⟩ rfl v2 Try.isAgg22 (KB.out.cell 1) ?_
    refine hK.out _ _ ⟨KS.out.cell 0, KB.out.cell 0, HX.out _ O1.out⟩ (fun hS => ?_)
    clear hK Kq
    try simp only [Act.put, List.getElem_toArray, List.getElem_cons_zero, List.getElem_cons_succ, List.setIfInBounds_toArray, List.set_cons_succ, List.set_cons_zero]
    refine wpAnyH_ready (rs := [13]) (by kernel_rfl) (by simp) ?_
    refine AllReadyH.cons rfl (fun Kq hK => ?_) AllReadyH.nil
    refine tyCo.step_append_at rfl czcC bb HBB.out hbl (.tmp 18) (.tmp 26) rfl base v2 q rfl O2.out _ _ 1 [x] rfl (rowIn_blk L1.out (by simp) (by decide)) (by have := HQL.out; simp only [List.length_singleton]; omega) (Nat.le_trans HB.out BB.out.size |> fun h => Nat.le_trans (Nat.le_refl _) h) ?_
    intro v4 w4 p4 g4 q4
    have NE4 := Lib.hid (show ∀ k, (.slice (some ⟨gg, 0, none⟩) l.length c : Value).ownBlock = some k → v4.ownBlock ≠ some k from fun k hk => by
      rcases q4 with q4 | q4
      · rw [q4]; exact HNE.out k hk
      · rw [q4]; intro e; have h1 := own_lt O1.out k hk; have := Option.some.inj e; omega)
    have OV4 := Lib.hid p4
    have KS2 := Lib.hid (KS.out.grown g4 (fun e => own_far O2.out KS.out nePS _ e.symm rfl))
    have KB2 := Lib.hid (KB.out.grown g4 (fun e => own_far O2.out KB.out neCS _ e.symm rfl))
    have O12 := Lib.hid (own_keep O1.out (fun b hb hlt => g4.block b hlt (fun e => HNE.out b hb e.symm)))
    have O22 := Lib.hid (OV4.out)
    have BB2 := Lib.hid (BB.out.grown g4 (fun b hb => .inl (.inr (.inr hb))))
    have NW4 := Lib.hid (show v4.ownBlock = v2.ownBlock ∨ ∃ k, v4.ownBlock = some k ∧ w.heap.size ≤ k from q4.imp id fun e => ⟨_, e, BB.out.size⟩)
    clear OV4 p4 g4 q4 L1
    clear KS KB O1 O2 BB
    have KS := KS2
    have KB := KB2
    have O1 := O12
    have O2 := O22
    have BB := BB2
    clear KS2 KB2 O12 O22 BB2
    refine hK.out _ _ ⟨KS.out.cell 0, KB.out.cell 0, HX.out _ O1.out⟩ (fun hS => ?_)
    clear hK Kq
    try simp only [Act.put, List.getElem_toArray, List.getElem_cons_zero, List.getElem_cons_succ, List.setIfInBounds_toArray, List.set_cons_succ, List.set_cons_zero]
    refine wpAnyH_take (i := 14) (v := .pointer (some ⟨g, 0, none⟩)) rfl (by kernel_rfl) (by kernel_rfl) (by kernel_rfl) (fun _ _ _ h => h) (Or.inl ⟨by rfl, fun W _ => by go_simp; try with_reducible rfl⟩) hS ?_
    simp only [Act.put, List.getElem_toArray, List.getElem_cons_zero, List.getElem_cons_succ, List.setIfInBounds_toArray, List.set_cons_succ, List.set_cons_zero]
    refine wpAnyH_take (i := 15) (v := .pointer (some ⟨g, 1, none⟩)) rfl (by kernel_rfl) (by kernel_rfl) (by kernel_rfl) (fun _ _ _ h => h) (Or.inl ⟨by rfl, fun W _ => by go_simp; try with_reducible rfl⟩) hS ?_
    simp only [Act.put, List.getElem_toArray, List.getElem_cons_zero, List.getElem_cons_succ, List.setIfInBounds_toArray, List.set_cons_succ, List.set_cons_zero]
    refine wpAnyH_ready (rs := [16]) (by kernel_rfl) (by simp) ?_
    refine AllReadyH.cons rfl (fun Kq hK => ?_) AllReadyH.nil
    refine step_store_cell rfl 22 (.tmp 29) (.tmp 27) rfl rfl g 1 v4 rfl rfl (own_one O2.out) 79 _ KB.out (by simp) (by kernel_rfl) ?_
    intro w5 o5 b5
    have KBX := Lib.hid b5
    have KS2 := Lib.hid (o5.blk KS.out (by have := HG.out; simp; omega))
    have KB2 := Lib.hid (KBX.out)
    have O12 := Lib.hid (own_keep O1.out (fun b hb _ => o5.block b (by have := own_far O1.out KB.out neCS b hb; simpa using this)))
    have O22 := Lib.hid (own_keep O2.out (fun b hb _ => o5.block b (by have := own_far O2.out KB.out neCS b hb; simpa using this)))
    have BB2 := Lib.hid (BB.out.only o5 (.inl (.inl rfl)))
    clear o5 b5 KBX KS KB O1 O2 BB
    have KS := KS2
    have KB := KB2
    have O1 := O12
    have O2 := O22
    have BB := BB2
    clear KS2 KB2 O12 O22 BB2
    refine hK.out _ _ ⟨KS.out.cell 0, KB.out.cell 0, HX.out _ O1.out⟩ (fun hS => ?_)
    clear hK Kq
    try simp only [Act.put, List.getElem_toArray, List.getElem_cons_zero, List.getElem_cons_succ, List.setIfInBounds_toArray, List.set_cons_succ, List.set_cons_zero]
    refine wpAnyH_done (by kernel_rfl) ?_ _
    clear hS
    have HNEX := Lib.hid NE4.out
    go_wp2_with fail
    refine wp_region_held_drew (S := fun V => V.cell? ⟨w.heap.size, 0, none⟩ = some (.pointer (some ⟨g, 0, none⟩))) (by kernel_rfl) (KS.out.drew.cell 0) ?_
    intro hS
    refine wpAnyH_take (i := 0) (v := .pointer (some ⟨g, 0, none⟩)) rfl (by kernel_rfl) (by kernel_rfl) (by kernel_rfl) (fun _ _ _ h => h) (yieldsIf_cell (by rfl) 70 (.tmp 2) rfl ⟨w.heap.size, 0, none⟩ rfl (.pointer (some ⟨g, 0, none⟩)) Try.isAgg70 (fun _ h => h)) hS ?_
    simp only [Act.put, List.getElem_toArray, List.getElem_cons_zero, List.setIfInBounds_toArray, List.set_cons_succ, List.set_cons_zero]
    refine wpAnyH_take (i := 1) (v := .pointer (some ⟨g, 0, none⟩)) rfl (by kernel_rfl) (by kernel_rfl) (by kernel_rfl) (fun _ _ _ h => h) (yieldsIf_cell (by rfl) 70 (.tmp 2) rfl ⟨w.heap.size, 0, none⟩ rfl (.pointer (some ⟨g, 0, none⟩)) Try.isAgg70 (fun _ h => h)) hS ?_
    simp only [Act.put, List.getElem_toArray, List.getElem_cons_zero, List.getElem_cons_succ, List.setIfInBounds_toArray, List.set_cons_succ, List.set_cons_zero]
    refine wpAnyH_take (i := 2) (v := .pointer (some ⟨g, 0, none⟩)) rfl (by kernel_rfl) (by kernel_rfl) (by kernel_rfl) (fun _ _ _ h => h) (Or.inl ⟨by rfl, fun W _ => by go_simp; try with_reducible rfl⟩) hS ?_
    simp only [Act.put, List.getElem_toArray, List.getElem_cons_zero, List.getElem_cons_succ, List.setIfInBounds_toArray, List.set_cons_succ, List.set_cons_zero]
    refine wpAnyH_take (i := 3) (v := .pointer (some ⟨g, 0, none⟩)) rfl (by kernel_rfl) (by kernel_rfl) (by kernel_rfl) (fun _ _ _ h => h) (Or.inl ⟨by rfl, fun W _ => by go_simp; try with_reducible rfl⟩) hS ?_
    simp only [Act.put, List.getElem_toArray, List.getElem_cons_zero, List.getElem_cons_succ, List.setIfInBounds_toArray, List.set_cons_succ, List.set_cons_zero]
    refine wpAnyH_take (i := 5) (v := .int .i64 j) rfl (by kernel_rfl) (by kernel_rfl) (by kernel_rfl) (fun _ _ _ h => h) (Or.inl ⟨by rfl, fun W _ => by go_simp; try with_reducible rfl⟩) hS ?_
    simp only [Act.put, List.getElem_toArray, List.getElem_cons_zero, List.getElem_cons_succ, List.setIfInBounds_toArray, List.set_cons_succ, List.set_cons_zero]
    refine wpAnyH_take (i := 6) (v := .int .i64 j) rfl (by kernel_rfl) (by kernel_rfl) (by kernel_rfl) (fun _ _ _ h => h) (Or.inl ⟨by rfl, fun W _ => by go_simp; try with_reducible rfl⟩) hS ?_
    simp only [Act.put, List.getElem_toArray, List.getElem_cons_zero, List.getElem_cons_succ, List.setIfInBounds_toArray, List.set_cons_succ, List.set_cons_zero]
    refine wpAnyH_take (i := 7) (v := .int .i64 ((j : Int) + 1)) rfl (by kernel_rfl) (by kernel_rfl) (by kernel_rfl) (fun _ _ _ h => h) (Or.inl ⟨by rfl, fun W _ => by go_simp; try with_reducible rfl⟩) hS ?_
    simp only [Act.put, List.getElem_toArray, List.getElem_cons_zero, List.getElem_cons_succ, List.setIfInBounds_toArray, List.set_cons_succ, List.set_cons_zero]
    refine wpAnyH_ready (rs := [4]) (by kernel_rfl) (by simp) ?_
    refine AllReadyH.cons rfl (fun Kq hK => ?_) AllReadyH.nil
    refine step_load_one (by rfl) 22 (.tmp 33) rfl ⟨g, 0, none⟩ rfl (.slice (some ⟨gg, 0, none⟩) l.length c) Try.isAgg22 (KB.out.drew.cell 0) ?_
    refine hK.out _ _ (KS.out.drew.cell 0) (fun hS => ?_)
    clear hK Kq
    try simp only [Act.put, List.getElem_toArray, List.getElem_cons_zero, List.getElem_cons_succ, List.setIfInBounds_toArray, List.set_cons_succ, List.set_cons_zero]
    refine wpAnyH_ready (rs := [8]) (by kernel_rfl) (by simp) ?_
    refine AllReadyH.cons rfl (fun Kq hK => ?_) AllReadyH.nil
    go_simp
    with_reducible refine (cDelete_own base gg c j l _ (own_drew O1.out) HJ.out (by have := HLL.out; omega)).mono ?_
    rintro e w6 ⟨rfl, o6, r6⟩
    have KB6 := Lib.hid (o6.blk KB.out.drew (by have := own_far O1.out KB.out neCS gg rfl; simpa using fun e => this e.symm))
    have KS6 := Lib.hid (o6.blk KS.out.drew (by have := own_far O1.out KS.out nePS gg rfl; simpa using fun e => this e.symm))
    have O16 := Lib.hid r6
    have O26 := Lib.hid (own_keep (own_drew O2.out) (fun b hb _ => o6.block b (by have := HNEX.out gg rfl; intro h; rw [List.mem_singleton] at h; subst h; exact this hb)))
    have BB6 := Lib.hid (BB.out.drew.only o6 (.inl (.inr (.inl rfl))))
    refine hK.out _ _ (KS6.out.cell 0) (fun hS => ?_)
    clear hK Kq o6 r6 KB KS O1 O2 BB
    try simp only [Act.put, List.getElem_toArray, List.getElem_cons_zero, List.getElem_cons_succ, List.setIfInBounds_toArray, List.set_cons_succ, List.set_cons_zero]
    refine wpAnyH_take (i := 9) (v := .pointer (some ⟨g, 0, none⟩)) rfl (by kernel_rfl) (by kernel_rfl) (by kernel_rfl) (fun _ _ _ h => h) (Or.inl ⟨by rfl, fun W _ => by go_simp; try with_reducible rfl⟩) hS ?_
    simp only [Act.put, List.getElem_toArray, List.getElem_cons_zero, List.getElem_cons_succ, List.setIfInBounds_toArray, List.set_cons_succ, List.set_cons_zero]
    refine wpAnyH_take (i := 10) (v := .pointer (some ⟨g, 0, none⟩)) rfl (by kernel_rfl) (by kernel_rfl) (by kernel_rfl) (fun _ _ _ h => h) (Or.inl ⟨by rfl, fun W _ => by go_simp; try with_reducible rfl⟩) hS ?_
    simp only [Act.put, List.getElem_toArray, List.getElem_cons_zero, List.getElem_cons_succ, List.setIfInBounds_toArray, List.set_cons_succ, List.set_cons_zero]
    refine wpAnyH_ready (rs := [11]) (by kernel_rfl) (by simp) ?_
    refine AllReadyH.cons rfl (fun Kq hK => ?_) AllReadyH.nil
    refine step_store_cell rfl 22 (.tmp 40) (.tmp 38) rfl rfl g 0 (.slice (some ⟨gg, 0, none⟩) (l.eraseIdx j).length c) rfl rfl rfl 79 _ KB6.out (by simp) (by kernel_rfl) ?_
    intro w7 o7 b7
    have SV := Lib.hid (show SetV base g (.func (.func gf) #[] cb) (.slice (some ⟨gg, 0, none⟩) (l.eraseIdx j).length c) v4 (l.eraseIdx j) (q ++ [x]) w7 from
      ⟨b7, HLOW.out, own_keep O16.out (fun b hb _ => o7.block b (by have := own_far O16.out KB6.out neCS b hb; simpa using this)), own_keep O26.out (fun b hb _ => o7.block b (by have := own_far O26.out KB6.out neCS b hb; simpa using this)), fun k hk => HNEX.out k hk⟩)
    have B7 := Lib.hid (BB6.out.only o7 (.inl (.inl rfl)))
    refine hK.out _ _ (o7.blk KS6.out (by have := HG.out; simp; omega) |>.cell 0) (fun hS => ?_)
    clear hK Kq o7 b7 KB6 KS6 O16 O26 BB6
    refine wpAnyH_done (by kernel_rfl) ?_ _
    go_wp2_with fail
    go_ret
    exact ⟨_, v4, rfl, SV.out, B7.out, rfl, NW4.out⟩
end Go.Proofs.Ytkjgmhamglhggaa
