/- tx's reader: what it leaves, how a method of it ends; step, get. -/
import Derived.Test.YthpnmmilioonhaaTxW
import Derived.Test.YthpnmmilioonhaaCodAll
import Derived.Test.YthpnmmilioonhaaChecked
import Derived.WalkLawsBesides
namespace Go.Proofs.Ythpnmmilioonhaa
open Go.RowKit
/-- all that there was is as it was, but block g -/
structure Past (g : Nat) (w w' : World) : Prop where
  os : w'.os = w.os
  tape : w'.tape = w.tape
  output : w'.output = w.output
  size : w.heap.size ≤ w'.heap.size
  block : ∀ i, i < w.heap.size → i ≠ g → w'.heap[i]? = w.heap[i]?
section
variable {g : Nat} {w w1 w2 : World}
theorem Past.refl (g : Nat) (w : World) : Past g w w := ⟨rfl, rfl, rfl, Nat.le_refl _, fun _ _ _ => rfl⟩
theorem Past.trans (h : Past g w w1) (k : Past g w1 w2) : Past g w w2 :=
  ⟨k.os.trans h.os, k.tape.trans h.tape, k.output.trans h.output, Nat.le_trans h.size k.size, fun i hi hg => (k.block i (Nat.lt_of_lt_of_le hi h.size) hg).trans (h.block i hi hg)⟩
theorem Past.of_below (h : Below w.heap.size w w1) : Past g w w1 := ⟨h.os, h.tape, h.output, h.size, fun i hi _ => h.block i hi⟩
theorem Past.of_only (h : Only [g] w w1) : Past g w w1 := ⟨h.os, h.tape, h.output, Nat.le_of_eq h.size.symm, fun i _ hg => h.block i (by simpa using hg)⟩
theorem Past.blk (h : Past g w w1) {k : Nat} {t : TypeId} {cs : Array Value} (hb : Blk w k t cs) (hk : k ≠ g) : Blk w1 k t cs := (h.block k hb.lt hk).trans hb
theorem Past.below (h : Past g w w1) {B : Nat} (hB : B ≤ g) (hw : B ≤ w.heap.size) : Below B w w1 := ⟨h.os, h.tape, h.output, h.size, fun i hi => h.block i (by omega) (by omega)⟩
theorem Past.drewN (h : Past g w w1) (n : Nat) : Past g w (w1.drewN n) := ⟨h.os, h.tape, h.output, h.size, h.block⟩
end
/-- the reader's block -/
abbrev Rb (w : World) (g : Nat) (l : List UInt8) : Prop := Blk w g 119 #[.string ⟨l.toArray⟩]
/-- how a method of the reader ends, by what a plain reader says of the bytes -/
def EndR {α : Type} (V : α → Value → World → Prop) (g : Nat) (w : World) (x : Except Int (α × List UInt8)) (e : Ending) (w' : World) : Prop :=
  match x with
  | .ok (a, r) => ∃ v, e = .returned v ∧ V a v w' ∧ Rb w' g r ∧ Past g w w'
  | .error er => e = .panicked [{ v := .iface 29 (.int .i64 er), recovered := false }] ∧ Past g w w'
def VU (n : Nat) (v : Value) (_ : World) : Prop := v = .int .u64 n
def VI (n : Nat) (v : Value) (_ : World) : Prop := v = .int .i64 n
def VK (k : K32) (v : Value) (_ : World) : Prop := v = .agg (encK k).toArray
theorem getR_f (wd : Nat) (h1 : 1 ≤ wd) (h8 : wd ≤ 8) (l : List UInt8) : (l.length < wd ∧ getF l wd = (0, [], 30) ∧ getR wd l = .error 30) ∨ (¬ l.length < wd ∧ getF l wd = (getN (l.take wd), l.drop wd, 0) ∧ getR wd l = .ok (getN (l.take wd), l.drop wd)) := by
  unfold getF getR
  by_cases h : l.length < wd
  · exact .inl ⟨h, by rw [if_neg (by omega), if_pos (by omega)], by rw [if_pos h]⟩
  · exact .inr ⟨h, by rw [if_neg (by omega), if_neg (by omega)]; rfl, by rw [if_neg h]⟩
theorem getC_any (l : List UInt8) (hs : l.length ≤ 1000000) (wd : Int) (p : Addr) (w : World) (hp : w.cell? p = some (.int .i64 wd)) :
    Calls Try.prog 96 #[.string ⟨l.toArray⟩, .pointer (some p)] w fun e w' => e = .returned (getV (getF l wd)) ∧ Below w.heap.size w w' := by
  have hg : ∀ w, Calls Try.prog 48 #[.string ⟨l.toArray⟩, .int .i64 wd] w fun e w' => e = .returned (getV (getF l wd)) ∧ Below w.heap.size w w' := get_any ⟨l.toArray⟩ (by rw [mkb_size]; exact hs) wd
  obtain ⟨x, hx⟩ : ∃ x, getF l wd = x := ⟨_, rfl⟩
  rw [hx] at hg ⊢
  clear hx
  have HG := Lib.hid hg
  clear hg
  go_enter Try.func96, Try.ntmps96
  go_wp2_with fail
  refine (HG.out _).mono ?_
  rintro e w1 ⟨rfl, b1⟩
  clear HG hp
  unfold getV
  go_wp2
  go_ret3
  exact ⟨rfl, b1⟩
theorem stepG_any (l : List UInt8) (hs : l.length ≤ 1000000) (wd : Nat) (h1 : 1 ≤ wd) (h8 : wd ≤ 8) (g c : Nat) (w : World) (hr : Rb w g l) (hp : w.cell? ⟨c, 0, none⟩ = some (.int .i64 wd)) :
    Calls Try.prog 94 #[.pointer (some ⟨g, 0, none⟩), .func (.func 96) #[] #[.pointer (some ⟨c, 0, none⟩)]] w (EndR VU g w (getR wd l)) := by
  have hc : w.cell? ⟨g, 0, none⟩ = some (.string ⟨l.toArray⟩) := hr.cell 0
  have HR := Lib.hid hr
  have hC := getC_any l hs wd ⟨c, 0, none⟩ w hp
  clear hr hp
  rcases getR_f wd h1 h8 l with ⟨hl, hf, hg⟩ | ⟨hl, hf, hg⟩
  · rw [hf] at hC
    rw [hg]
    have HC := Lib.hid hC
    clear hf hg hl hC
    go_enter Try.func94, Try.ntmps94
    go_wp2_with fail
    refine HC.out.mono ?_
    rintro e w1 ⟨rfl, b1⟩
    have P1 := Lib.hid (Past.of_below (g := g) b1)
    clear hc HC b1 HR
    unfold getV
    go_wp2
    exact ⟨rfl, rfl, P1.out⟩
  · rw [hf] at hC
    rw [hg]
    clear hf hg hl
    obtain ⟨n, hn⟩ : ∃ n, getN (l.take wd) = n := ⟨_, rfl⟩
    obtain ⟨r, hr⟩ : ∃ r, l.drop wd = r := ⟨_, rfl⟩
    rw [hn, hr] at hC ⊢
    have HC := Lib.hid hC
    clear hn hr hC
    go_enter Try.func94, Try.ntmps94
    go_wp2_with fail
    refine HC.out.mono ?_
    rintro e w1 ⟨rfl, b1⟩
    have K1 := Lib.hid (below_blk b1 HR.out HR.out.lt)
    have P1 := Lib.hid (Past.of_below (g := g) b1)
    clear hc HC b1 HR
    unfold getV
    have kc := K1.out.cell 0
    have kz := K1.out.frozen 0
    go_wp2_with ((with_reducible refine at_store 25 23 ?_); refine wpList_store_blk rfl 9 (.tmp 25) (.tmp 23) rfl rfl g (.string ⟨r.toArray⟩) rfl rfl rfl 119 _ K1.out (by kernel_rfl) ?_; intro w2 o2 b2)
    go_ret
    exact ⟨_, rfl, rfl, b2, P1.out.trans (Past.of_only o2)⟩
theorem EndR.from {α : Type} {V : α → Value → World → Prop} {g : Nat} {w w1 w' : World} {x : Except Int (α × List UInt8)} {e : Ending} (h : EndR V g w1 x e w') (hp : Past g w w1) : EndR V g w x e w' := by
  cases x with
  | error er => exact ⟨h.1, hp.trans h.2⟩
  | ok p => obtain ⟨v, h1, h2, h3, h4⟩ := h; exact ⟨v, h1, h2, h3, hp.trans h4⟩
theorem get_r (l : List UInt8) (hs : l.length ≤ 1000000) (wd : Nat) (h1 : 1 ≤ wd) (h8 : wd ≤ 8) (g : Nat) (w : World) (hr : Rb w g l) :
    Calls Try.prog 93 #[.pointer (some ⟨g, 0, none⟩), .int .i64 wd] w (EndR VU g w (getR wd l)) := by
  have hmf : ∀ (fn : Fn) (first cap : Array Value) (w : World), (Instr.makeFunc fn first cap).run Try.prog w = .ok (.func fn first cap) w := fun _ _ _ _ => rfl
  have hG := stepG_any l hs wd h1 h8 g w.heap.size (w.alloc (.cells #[.int .i64 wd] 3)) (hr.alloc _) ((Blk.new w _ _).cell 0)
  have hP : Past g w (w.alloc (.cells #[.int .i64 wd] 3)) := Past.of_below ((Below.refl _ _).alloc (Nat.le_refl _) _)
  have HP := Lib.hid hP
  clear hr hP
  cases hq : getR wd l with
  | error er =>
    rw [hq] at hG
    have HG := Lib.hid hG
    clear hq hG
    go_enter Try.func93, Try.ntmps93
    go_wp2_with fail
    refine HG.out.mono ?_
    rintro e w1 ⟨rfl, p1⟩
    exact ⟨rfl, rfl, HP.out.trans p1⟩
  | ok x =>
    obtain ⟨n, r⟩ := x
    rw [hq] at hG
    have HG := Lib.hid hG
    clear hq hG
    go_enter Try.func93, Try.ntmps93
    go_wp2_with fail
    refine HG.out.mono ?_
    rintro e w1 ⟨v, rfl, rfl, b1, p1⟩
    have B1 := Lib.hid b1
    clear b1
    go_wp2
    go_ret
    exact ⟨_, rfl, rfl, B1.out, HP.out.trans p1⟩
def Vu32 (z : IntV .u32) (v : Value) (_ : World) : Prop := v = .int .u32 z.1
theorem u32_r (l : List UInt8) (hs : l.length ≤ 1000000) (g : Nat) (w : World) (hr : Rb w g l) :
    Calls Try.prog 84 #[.pointer (some ⟨g, 0, none⟩)] w (EndR Vu32 g w (u32R l)) := by
  have hG : Calls Try.prog 93 #[.pointer (some ⟨g, 0, none⟩), .int .i64 4] w (EndR VU g w (getR 4 l)) := get_r l hs 4 (by omega) (by omega) g w hr
  clear hr
  cases hq : getR 4 l with
  | error er =>
    rw [show u32R l = .error er by unfold u32R mapR; rw [hq]]
    rw [hq] at hG
    have HG := Lib.hid hG
    clear hq hG
    go_enter Try.func84, Try.ntmps84
    go_wp2_with fail
    refine HG.out.mono ?_
    rintro e w1 ⟨rfl, p1⟩
    exact ⟨rfl, rfl, p1⟩
  | ok x =>
    obtain ⟨n, r⟩ := x
    have hn : n < 4294967296 := (good_get 4).bwd _ _ _ hq |>.1
    rw [show u32R l = .ok (toU32 n, r) by unfold u32R mapR; rw [hq]]
    rw [hq] at hG
    have HC := Lib.hid (show Value.int .u32 ((n : Int) % 4294967296) = .int .u32 (toU32 n).1 from congrArg _ (by show (n : Int) % 4294967296 = ((n % 4294967296 : Nat) : Int); omega))
    have HG := Lib.hid hG
    clear hq hG hn
    go_enter Try.func84, Try.ntmps84
    go_wp2_with fail
    refine HG.out.mono ?_
    rintro e w1 ⟨v, rfl, rfl, b1, p1⟩
    have B1 := Lib.hid b1
    clear b1
    go_wp2
    go_ret
    exact ⟨_, rfl, HC.out, B1.out, p1⟩
def Vi64 (z : IntV .i64) (v : Value) (_ : World) : Prop := v = .int .i64 z.1
theorem i64_r (l : List UInt8) (hs : l.length ≤ 1000000) (g : Nat) (w : World) (hr : Rb w g l) :
    Calls Try.prog 92 #[.pointer (some ⟨g, 0, none⟩)] w (EndR Vi64 g w (i64R l)) := by
  have hG : Calls Try.prog 93 #[.pointer (some ⟨g, 0, none⟩), .int .i64 8] w (EndR VU g w (getR 8 l)) := get_r l hs 8 (by omega) (by omega) g w hr
  clear hr
  cases hq : getR 8 l with
  | error er =>
    rw [show i64R l = .error er by unfold i64R mapR; rw [hq]]
    rw [hq] at hG
    have HG := Lib.hid hG
    clear hq hG
    go_enter Try.func92, Try.ntmps92
    go_wp2_with fail
    refine HG.out.mono ?_
    rintro e w1 ⟨rfl, p1⟩
    exact ⟨rfl, rfl, p1⟩
  | ok x =>
    obtain ⟨n, r⟩ := x
    have hn : n < 18446744073709551616 := (good_get 8).bwd _ _ _ hq |>.1
    rw [show i64R l = .ok (toI64 n, r) by unfold i64R mapR; rw [hq]]
    rw [hq] at hG
    have HC := Lib.hid (show Value.int .i64 (wrap64 (n : Int)) = .int .i64 (toI64 n).1 from congrArg _ (by unfold wrap64 toI64; simp only; split <;> omega))
    have HG := Lib.hid hG
    clear hq hG hn
    go_enter Try.func92, Try.ntmps92
    go_wp2_with fail
    refine HG.out.mono ?_
    rintro e w1 ⟨v, rfl, rfl, b1, p1⟩
    have B1 := Lib.hid b1
    clear b1
    go_wp2
    go_ret
    exact ⟨_, rfl, HC.out, B1.out, p1⟩
end Go.Proofs.Ythpnmmilioonhaa
