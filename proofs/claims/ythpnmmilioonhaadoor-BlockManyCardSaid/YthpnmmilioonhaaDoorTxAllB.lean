/- TxAllB: TxR, TxS, TxT, TxL, TxU, TxOw, TxX, TxV, TxZ, TxD, in one text. -/
import Derived.Test.YthpnmmilioonhaaDoorTxAllA
import Derived.Test.YthpnmmilioonhaaDoorCodAll
import Derived.Test.YthpnmmilioonhaaDoorChecked
import Derived.WalkLawsBesides
import Derived.Test.YthpnmmilioonhaaDoorGenA
import Derived.Deep.RegionHeld3
import Derived.Defers
import Derived.Recover
import Derived.RegionTactic
/- tx's reader: what it leaves, how a method of it ends; step, get. -/
namespace Go.Proofs.YthpnmmilioonhaaDoor
open Go.RowKit
/-- all that there was is as it was, but block g -/
structure Past (g : Nat) (w w' : World) : Prop where
  os : w'.os = w.os
  tape : w'.tape = w.tape
  output : w'.output = w.output
  size : w.heap.size ≤ w'.heap.size
  block : ∀ i, i < w.heap.size → i ≠ g → w'.heap[i]? = w.heap[i]?
section
variable {g : Nat} {w w1 w2 : World}
theorem Past.refl (g : Nat) (w : World) : Past g w w := ⟨rfl, rfl, rfl, Nat.le_refl _, fun _ _ _ => rfl⟩
theorem Past.trans (h : Past g w w1) (k : Past g w1 w2) : Past g w w2 :=
  ⟨k.os.trans h.os, k.tape.trans h.tape, k.output.trans h.output, Nat.le_trans h.size k.size, fun i hi hg => (k.block i (Nat.lt_of_lt_of_le hi h.size) hg).trans (h.block i hi hg)⟩
theorem Past.of_below (h : Below w.heap.size w w1) : Past g w w1 := ⟨h.os, h.tape, h.output, h.size, fun i hi _ => h.block i hi⟩
theorem Past.of_only (h : Only [g] w w1) : Past g w w1 := ⟨h.os, h.tape, h.output, Nat.le_of_eq h.size.symm, fun i _ hg => h.block i (by simpa using hg)⟩
theorem Past.blk (h : Past g w w1) {k : Nat} {t : TypeId} {cs : Array Value} (hb : Blk w k t cs) (hk : k ≠ g) : Blk w1 k t cs := (h.block k hb.lt hk).trans hb
theorem Past.below (h : Past g w w1) {B : Nat} (hB : B ≤ g) (hw : B ≤ w.heap.size) : Below B w w1 := ⟨h.os, h.tape, h.output, h.size, fun i hi => h.block i (by omega) (by omega)⟩
theorem Past.drewN (h : Past g w w1) (n : Nat) : Past g w (w1.drewN n) := ⟨h.os, h.tape, h.output, h.size, h.block⟩
end
/-- the reader's block -/
abbrev Rb (w : World) (g : Nat) (l : List UInt8) : Prop := Blk w g 123 #[.string ⟨l.toArray⟩]
/-- how a method of the reader ends, by what a plain reader says of the bytes -/
def EndR {α : Type} (V : α → Value → World → Prop) (g : Nat) (w : World) (x : Except Int (α × List UInt8)) (e : Ending) (w' : World) : Prop :=
  match x with
  | .ok (a, r) => ∃ v, e = .returned v ∧ V a v w' ∧ Rb w' g r ∧ Past g w w'
  | .error er => e = .panicked [{ v := .iface 35 (.int .i64 er), recovered := false }] ∧ Past g w w'
def VU (n : Nat) (v : Value) (_ : World) : Prop := v = .int .u64 n
def VI (n : Nat) (v : Value) (_ : World) : Prop := v = .int .i64 n
def VK (k : K32) (v : Value) (_ : World) : Prop := v = .agg (encK k).toArray
theorem getR_f (wd : Nat) (h1 : 1 ≤ wd) (h8 : wd ≤ 8) (l : List UInt8) : (l.length < wd ∧ getF l wd = (0, [], 30) ∧ getR wd l = .error 30) ∨ (¬ l.length < wd ∧ getF l wd = (getN (l.take wd), l.drop wd, 0) ∧ getR wd l = .ok (getN (l.take wd), l.drop wd)) := by
  unfold getF getR
  by_cases h : l.length < wd
  · exact .inl ⟨h, by rw [if_neg (by omega), if_pos (by omega)], by rw [if_pos h]⟩
  · exact .inr ⟨h, by rw [if_neg (by omega), if_neg (by omega)]; rfl, by rw [if_neg h]⟩
theorem getC_any (l : List UInt8) (hs : l.length ≤ 1000000) (wd : Int) (p : Addr) (w : World) (hp : w.cell? p = some (.int .i64 wd)) :
    Calls Tryd.prog 117 #[.string ⟨l.toArray⟩, .pointer (some p)] w fun e w' => e = .returned (getV (getF l wd)) ∧ Below w.heap.size w w' := by
  have hg : ∀ w, Calls Tryd.prog 70 #[.string ⟨l.toArray⟩, .int .i64 wd] w fun e w' => e = .returned (getV (getF l wd)) ∧ Below w.heap.size w w' := get_any ⟨l.toArray⟩ (by rw [mkb_size]; exact hs) wd
  obtain ⟨x, hx⟩ : ∃ x, getF l wd = x := ⟨_, rfl⟩
  rw [hx] at hg ⊢
  clear hx
  have HG := Lib.hid hg
  clear hg
  go_enter Tryd.func117, Tryd.ntmps117
  go_wp2_with fail
  refine (HG.out _).mono ?_
  rintro e w1 ⟨rfl, b1⟩
  clear HG hp
  unfold getV
  go_wp2
  go_ret3
  exact ⟨rfl, b1⟩
theorem stepG_any (l : List UInt8) (hs : l.length ≤ 1000000) (wd : Nat) (h1 : 1 ≤ wd) (h8 : wd ≤ 8) (g c : Nat) (w : World) (hr : Rb w g l) (hp : w.cell? ⟨c, 0, none⟩ = some (.int .i64 wd)) :
    Calls Tryd.prog 115 #[.pointer (some ⟨g, 0, none⟩), .func (.func 117) #[] #[.pointer (some ⟨c, 0, none⟩)]] w (EndR VU g w (getR wd l)) := by
  have hc : w.cell? ⟨g, 0, none⟩ = some (.string ⟨l.toArray⟩) := hr.cell 0
  have HR := Lib.hid hr
  have hC := getC_any l hs wd ⟨c, 0, none⟩ w hp
  clear hr hp
  rcases getR_f wd h1 h8 l with ⟨hl, hf, hg⟩ | ⟨hl, hf, hg⟩
  · rw [hf] at hC
    rw [hg]
    have HC := Lib.hid hC
    clear hf hg hl hC
    go_enter Tryd.func115, Tryd.ntmps115
    go_wp2_with fail
    refine HC.out.mono ?_
    rintro e w1 ⟨rfl, b1⟩
    have P1 := Lib.hid (Past.of_below (g := g) b1)
    clear hc HC b1 HR
    unfold getV
    go_wp2
    exact ⟨rfl, rfl, P1.out⟩
  · rw [hf] at hC
    rw [hg]
    clear hf hg hl
    obtain ⟨n, hn⟩ : ∃ n, getN (l.take wd) = n := ⟨_, rfl⟩
    obtain ⟨r, hr⟩ : ∃ r, l.drop wd = r := ⟨_, rfl⟩
    rw [hn, hr] at hC ⊢
    have HC := Lib.hid hC
    clear hn hr hC
    go_enter Tryd.func115, Tryd.ntmps115
    go_wp2_with fail
    refine HC.out.mono ?_
    rintro e w1 ⟨rfl, b1⟩
    have K1 := Lib.hid (below_blk b1 HR.out HR.out.lt)
    have P1 := Lib.hid (Past.of_below (g := g) b1)
    clear hc HC b1 HR
    unfold getV
    have kc := K1.out.cell 0
    have kz := K1.out.frozen 0
    go_wp2_with ((with_reducible refine at_store 25 23 ?_); refine wpList_store_blk rfl 9 (.tmp 25) (.tmp 23) rfl rfl g (.string ⟨r.toArray⟩) rfl rfl rfl 123 _ K1.out (by kernel_rfl) ?_; intro w2 o2 b2)
    go_ret
    exact ⟨_, rfl, rfl, b2, P1.out.trans (Past.of_only o2)⟩
theorem EndR.from {α : Type} {V : α → Value → World → Prop} {g : Nat} {w w1 w' : World} {x : Except Int (α × List UInt8)} {e : Ending} (h : EndR V g w1 x e w') (hp : Past g w w1) : EndR V g w x e w' := by
  cases x with
  | error er => exact ⟨h.1, hp.trans h.2⟩
  | ok p => obtain ⟨v, h1, h2, h3, h4⟩ := h; exact ⟨v, h1, h2, h3, hp.trans h4⟩
theorem get_r (l : List UInt8) (hs : l.length ≤ 1000000) (wd : Nat) (h1 : 1 ≤ wd) (h8 : wd ≤ 8) (g : Nat) (w : World) (hr : Rb w g l) :
    Calls Tryd.prog 114 #[.pointer (some ⟨g, 0, none⟩), .int .i64 wd] w (EndR VU g w (getR wd l)) := by
  have hmf : ∀ (fn : Fn) (first cap : Array Value) (w : World), (Instr.makeFunc fn first cap).run Tryd.prog w = .ok (.func fn first cap) w := fun _ _ _ _ => rfl
  have hG := stepG_any l hs wd h1 h8 g w.heap.size (w.alloc (.cells #[.int .i64 wd] 3)) (hr.alloc _) ((Blk.new w _ _).cell 0)
  have hP : Past g w (w.alloc (.cells #[.int .i64 wd] 3)) := Past.of_below ((Below.refl _ _).alloc (Nat.le_refl _) _)
  have HP := Lib.hid hP
  clear hr hP
  cases hq : getR wd l with
  | error er =>
    rw [hq] at hG
    have HG := Lib.hid hG
    clear hq hG
    go_enter Tryd.func114, Tryd.ntmps114
    go_wp2_with fail
    refine HG.out.mono ?_
    rintro e w1 ⟨rfl, p1⟩
    exact ⟨rfl, rfl, HP.out.trans p1⟩
  | ok x =>
    obtain ⟨n, r⟩ := x
    rw [hq] at hG
    have HG := Lib.hid hG
    clear hq hG
    go_enter Tryd.func114, Tryd.ntmps114
    go_wp2_with fail
    refine HG.out.mono ?_
    rintro e w1 ⟨v, rfl, rfl, b1, p1⟩
    have B1 := Lib.hid b1
    clear b1
    go_wp2
    go_ret
    exact ⟨_, rfl, rfl, B1.out, HP.out.trans p1⟩
def Vu32 (z : IntV .u32) (v : Value) (_ : World) : Prop := v = .int .u32 z.1
theorem u32_r (l : List UInt8) (hs : l.length ≤ 1000000) (g : Nat) (w : World) (hr : Rb w g l) :
    Calls Tryd.prog 104 #[.pointer (some ⟨g, 0, none⟩)] w (EndR Vu32 g w (u32R l)) := by
  have hG : Calls Tryd.prog 114 #[.pointer (some ⟨g, 0, none⟩), .int .i64 4] w (EndR VU g w (getR 4 l)) := get_r l hs 4 (by omega) (by omega) g w hr
  clear hr
  cases hq : getR 4 l with
  | error er =>
    rw [show u32R l = .error er by unfold u32R mapR; rw [hq]]
    rw [hq] at hG
    have HG := Lib.hid hG
    clear hq hG
    go_enter Tryd.func104, Tryd.ntmps104
    go_wp2_with fail
    refine HG.out.mono ?_
    rintro e w1 ⟨rfl, p1⟩
    exact ⟨rfl, rfl, p1⟩
  | ok x =>
    obtain ⟨n, r⟩ := x
    have hn : n < 4294967296 := (good_get 4).bwd _ _ _ hq |>.1
    rw [show u32R l = .ok (toU32 n, r) by unfold u32R mapR; rw [hq]]
    rw [hq] at hG
    have HC := Lib.hid (show Value.int .u32 ((n : Int) % 4294967296) = .int .u32 (toU32 n).1 from congrArg _ (by show (n : Int) % 4294967296 = ((n % 4294967296 : Nat) : Int); omega))
    have HG := Lib.hid hG
    clear hq hG hn
    go_enter Tryd.func104, Tryd.ntmps104
    go_wp2_with fail
    refine HG.out.mono ?_
    rintro e w1 ⟨v, rfl, rfl, b1, p1⟩
    have B1 := Lib.hid b1
    clear b1
    go_wp2
    go_ret
    exact ⟨_, rfl, HC.out, B1.out, p1⟩
def Vi64 (z : IntV .i64) (v : Value) (_ : World) : Prop := v = .int .i64 z.1
theorem i64_r (l : List UInt8) (hs : l.length ≤ 1000000) (g : Nat) (w : World) (hr : Rb w g l) :
    Calls Tryd.prog 112 #[.pointer (some ⟨g, 0, none⟩)] w (EndR Vi64 g w (i64R l)) := by
  have hG : Calls Tryd.prog 114 #[.pointer (some ⟨g, 0, none⟩), .int .i64 8] w (EndR VU g w (getR 8 l)) := get_r l hs 8 (by omega) (by omega) g w hr
  clear hr
  cases hq : getR 8 l with
  | error er =>
    rw [show i64R l = .error er by unfold i64R mapR; rw [hq]]
    rw [hq] at hG
    have HG := Lib.hid hG
    clear hq hG
    go_enter Tryd.func112, Tryd.ntmps112
    go_wp2_with fail
    refine HG.out.mono ?_
    rintro e w1 ⟨rfl, p1⟩
    exact ⟨rfl, rfl, p1⟩
  | ok x =>
    obtain ⟨n, r⟩ := x
    have hn : n < 18446744073709551616 := (good_get 8).bwd _ _ _ hq |>.1
    rw [show i64R l = .ok (toI64 n, r) by unfold i64R mapR; rw [hq]]
    rw [hq] at hG
    have HC := Lib.hid (show Value.int .i64 (wrap64 (n : Int)) = .int .i64 (toI64 n).1 from congrArg _ (by unfold wrap64 toI64; simp only; split <;> omega))
    have HG := Lib.hid hG
    clear hq hG hn
    go_enter Tryd.func112, Tryd.ntmps112
    go_wp2_with fail
    refine HG.out.mono ?_
    rintro e w1 ⟨v, rfl, rfl, b1, p1⟩
    have B1 := Lib.hid b1
    clear b1
    go_wp2
    go_ret
    exact ⟨_, rfl, HC.out, B1.out, p1⟩
end Go.Proofs.YthpnmmilioonhaaDoor
/- tx's reader: step of a count and of a key; count, key, point, out. -/
namespace Go.Proofs.YthpnmmilioonhaaDoor
open Go.RowKit
theorem Past.new {g k : Nat} {w w1 w2 : World} (h : Past g w w1) (o : Only [k] w1 w2) (hk : w.heap.size ≤ k) : Past g w w2 :=
  ⟨o.os.trans h.os, o.tape.trans h.tape, o.output.trans h.output, Nat.le_trans h.size (Nat.le_of_eq o.size.symm), fun i hi hg => (o.block i (by simp; omega)).trans (h.block i hi hg)⟩
def readR (l : List UInt8) : Except Int (Nat × List UInt8) := match readF l with
  | (n, r, e) => if e = 0 then .ok (n, r) else .error e
theorem readR_f (l : List UInt8) : (∃ er, er ≠ 0 ∧ readF l = (0, [], er) ∧ readR l = .error er) ∨ ∃ n r, readF l = (n, r, 0) ∧ readR l = .ok (n, r) ∧ n < 2 ^ 64 := by
  unfold readR
  rcases readF_cases l with ⟨n, r, h, _, hn⟩ | h | h
  · exact .inr ⟨n, r, h, by rw [h]; rfl, hn⟩
  · exact .inl ⟨30, by decide, h, by rw [h]; rfl⟩
  · exact .inl ⟨31, by decide, h, by rw [h]; rfl⟩
theorem stepC_any (l : List UInt8) (hs : l.length ≤ 1000000) (g : Nat) (w : World) (hr : Rb w g l) :
    Calls Tryd.prog 115 #[.pointer (some ⟨g, 0, none⟩), .func (.func 47) #[] #[]] w (EndR VU g w (readR l)) := by
  have hc : w.cell? ⟨g, 0, none⟩ = some (.string ⟨l.toArray⟩) := hr.cell 0
  have HR := Lib.hid hr
  have hC : Calls Tryd.prog 47 #[.string ⟨l.toArray⟩] w fun e w' => e = .returned (getV (readF l)) ∧ Below w.heap.size w w' := read_any ⟨l.toArray⟩ (by rw [mkb_size]; exact hs) w
  clear hr
  rcases readR_f l with ⟨er, h0, hf, hg⟩ | ⟨n, r, hf, hg, hn⟩
  · rw [hf] at hC
    rw [hg]
    have HC := Lib.hid hC
    have hd : (er == 0) = false := beq_eq_false_iff_ne.mpr h0
    clear hf hg hC h0
    go_enter Tryd.func115, Tryd.ntmps115
    go_wp2_with fail
    refine HC.out.mono ?_
    rintro e w1 ⟨rfl, b1⟩
    have P1 := Lib.hid (Past.of_below (g := g) b1)
    clear hc HC b1 HR
    unfold getV
    go_wp2
    exact ⟨rfl, rfl, P1.out⟩
  · rw [hf] at hC
    rw [hg]
    have HC := Lib.hid hC
    clear hf hg hC hn
    go_enter Tryd.func115, Tryd.ntmps115
    go_wp2_with fail
    refine HC.out.mono ?_
    rintro e w1 ⟨rfl, b1⟩
    have K1 := Lib.hid (below_blk b1 HR.out HR.out.lt)
    have P1 := Lib.hid (Past.of_below (g := g) b1)
    clear hc HC b1 HR
    unfold getV
    have kc := K1.out.cell 0
    have kz := K1.out.frozen 0
    go_wp2_with ((with_reducible refine at_store 25 23 ?_); refine wpList_store_blk rfl 9 (.tmp 25) (.tmp 23) rfl rfl g (.string ⟨r.toArray⟩) rfl rfl rfl 123 _ K1.out (by kernel_rfl) ?_; intro w2 o2 b2)
    go_ret
    exact ⟨_, rfl, rfl, b2, P1.out.trans (Past.of_only o2)⟩
theorem count_r (l : List UInt8) (hs : l.length ≤ 1000000) (g : Nat) (w : World) (hr : Rb w g l) :
    Calls Tryd.prog 106 #[.pointer (some ⟨g, 0, none⟩)] w (EndR VI g w (numR l)) := by
  have hG := stepC_any l hs g w hr
  clear hr
  rcases readR_f l with ⟨er, h0, hf, hg⟩ | ⟨n, r, hf, hg, hn⟩
  · rw [show numR l = .error er by unfold numR; rw [hf]; exact if_neg h0]
    rw [hg] at hG
    have HG := Lib.hid hG
    clear hf hg hG h0
    go_enter Tryd.func106, Tryd.ntmps106
    go_wp2_with fail
    refine HG.out.mono ?_
    rintro e w1 ⟨rfl, p1⟩
    exact ⟨rfl, rfl, p1⟩
  · rw [hg] at hG
    have HG := Lib.hid hG
    by_cases h40 : 40 < n
    · rw [show numR l = .error 51 by unfold numR; rw [hf]; simp [h40]]
      have hd : decide ((40 : Int) < n) = true := by simp; omega
      clear hf hg hG hn h40
      go_enter Tryd.func106, Tryd.ntmps106
      go_wp2_with fail
      refine HG.out.mono ?_
      rintro e w1 ⟨v, rfl, rfl, b1, p1⟩
      have P1 := Lib.hid p1
      clear b1 p1
      go_wp2
      exact ⟨rfl, rfl, P1.out⟩
    · rw [show numR l = .ok (n, r) by unfold numR; rw [hf]; simp [h40]]
      have hd : decide ((40 : Int) < n) = false := by simp; omega
      have HW := Lib.hid (show wrap64 (n : Int) = n by unfold wrap64; omega)
      clear hf hg hG hn h40
      go_enter Tryd.func106, Tryd.ntmps106
      go_wp2_with fail
      refine HG.out.mono ?_
      rintro e w1 ⟨v, rfl, rfl, b1, p1⟩
      have P1 := Lib.hid p1
      have B1 := Lib.hid b1
      clear b1 p1
      go_wp2
      go_ret
      exact ⟨_, rfl, congrArg (Value.int .i64) HW.out, B1.out, P1.out⟩
theorem keyR_f (l : List UInt8) : (keyF l = (List.replicate 32 0, [], 30) ∧ keyR l = .error 30) ∨ ∃ (k : K32) (r : List UInt8), keyF l = (k.1, r, 0) ∧ keyR l = .ok (k, r) := by
  unfold keyF keyR
  by_cases h : l.length < 32
  · exact .inl ⟨by rw [if_pos h], by rw [dif_pos h]⟩
  · exact .inr ⟨⟨l.take 32, by rw [List.length_take]; omega⟩, l.drop 32, by rw [if_neg h], by rw [dif_neg h]⟩
set_option maxRecDepth 20000 in
theorem stepK_any (l : List UInt8) (hs : l.length ≤ 1000000) (g : Nat) (w : World) (hr : Rb w g l) :
    Calls Tryd.prog 116 #[.pointer (some ⟨g, 0, none⟩), .func (.func 41) #[] #[]] w (EndR VK g w (keyR l)) := by
  have hc : ∀ cs, (w.alloc (.cells cs 23)).cell? ⟨g, 0, none⟩ = some (.string ⟨l.toArray⟩) := fun cs => (hr.alloc _).cell 0
  have HR := Lib.hid (fun cs => (show Rb (w.alloc (.cells cs 23)) g l from hr.alloc _))
  have P0 := Lib.hid (fun cs => (show Past g w (w.alloc (.cells cs 23)) from Past.of_below ((Below.refl _ _).alloc (Nat.le_refl _) _)))
  have hC : ∀ w, Calls Tryd.prog 41 #[.string ⟨l.toArray⟩] w fun e w' => e = .returned (keyV (keyF l)) ∧ Below w.heap.size w w' := ckey_any ⟨l.toArray⟩ (by rw [mkb_size]; exact hs)
  have hg4 : g ≠ w.heap.size := Nat.ne_of_lt hr.lt
  clear hr
  rcases keyR_f l with ⟨hf, hg⟩ | ⟨k, r, hf, hg⟩
  · rw [hf] at hC
    rw [hg]
    have HC := Lib.hid hC
    clear hf hg hC
    go_enter Tryd.func116, Tryd.ntmps116
    go_wp2_with fail
    refine (HC.out _).mono ?_
    rintro e w1 ⟨rfl, b1⟩
    have P1 := Lib.hid ((P0.out _).trans (Past.of_below (g := g) b1))
    clear hc HC b1 HR
    unfold keyV
    go_wp2_with ((with_reducible refine at_store 5 15 ?_); refine wpList_store_arr rfl 23 (.tmp 5) (.tmp 15) rfl rfl w1.heap.size (bytesA (List.replicate 32 0)) rfl rfl 23 _ (Blk.new w1 _ _) (sz32 _ rep32) (by rw [bytesA_size, rep32]; rfl) (bytesA_one _) ?_; intro w2 o2 b2; have P2 := Lib.hid (P1.out.trans (Past.of_below (((Below.refl _ _).alloc (Nat.le_refl _) _).trans (o2.below (by simp))))); clear b2 o2)
    exact ⟨rfl, rfl, P2.out⟩
  · rw [hf] at hC
    rw [hg]
    have HC := Lib.hid hC
    clear hf hg hC
    go_enter Tryd.func116, Tryd.ntmps116
    go_wp2_with fail
    refine (HC.out _).mono ?_
    rintro e w1 ⟨rfl, b1⟩
    have P1 := Lib.hid ((P0.out _).trans (Past.of_below (g := g) b1))
    have K1 := Lib.hid (below_blk b1 (HR.out _) (HR.out _).lt)
    have K4 := Lib.hid (below_blk b1 (Blk.new w 23 _) (by simp))
    have l4 : w.heap.size < w1.heap.size := K4.out.lt
    have lg : g < w1.heap.size := K1.out.lt
    clear hc HC b1 HR
    unfold keyV
    go_wp2_with (first
      | ((with_reducible refine at_store 5 15 ?_); refine wpList_store_arr rfl 23 (.tmp 5) (.tmp 15) rfl rfl w1.heap.size (bytesA k.1) rfl rfl 23 _ (Blk.new w1 _ _) (sz32 _ k.2) (by rw [bytesA_size, k.2]; rfl) (bytesA_one _) ?_; intro w2 o2 b2
         have P2 := Lib.hid (P1.out.trans (Past.of_below (g := g) (((Below.refl _ _).alloc (Nat.le_refl _) _).trans (o2.below (by simp)))))
         have K5 := Lib.hid b2
         replace K1 := Lib.hid (o2.blk (K1.out.alloc _) (by simp; omega))
         replace K4 := Lib.hid (o2.blk (K4.out.alloc _) (by simp; omega))
         have kc := K1.out.cell 0
         have kz := K1.out.frozen 0
         clear b2 o2)
      | ((with_reducible refine at_store 25 23 ?_); refine wpList_store_blk rfl 9 (.tmp 25) (.tmp 23) rfl rfl g (.string ⟨r.toArray⟩) rfl rfl rfl 123 _ K1.out (by kernel_rfl) ?_; intro w3 o3 b3
         have P3 := Lib.hid (P2.out.trans (Past.of_only o3))
         replace K5 := Lib.hid (o3.blk K5.out (by simp; omega))
         replace K4 := Lib.hid (o3.blk K4.out (by simp; omega))
         have K1' := Lib.hid b3
         clear b3 o3)
      | ((with_reducible refine at_load 5 ?_); refine tyKy.wpList_load rfl (.tmp 5) rfl w1.heap.size 0 rfl k (by simpa [encK] using RowC.of_blk K5.out) ?_)
      | ((with_reducible refine at_store 4 26 ?_); refine wpList_store_arr rfl 23 (.tmp 4) (.tmp 26) rfl rfl w.heap.size (encK k).toArray rfl rfl 23 _ K4.out (tyKy.arrS _) (by rw [tyKy.arr]; rfl) (tyKy.arr1 _) ?_; intro w4 o4 b4
         have P4 := Lib.hid (P3.out.new o4 (Nat.le_refl _))
         replace K1 := Lib.hid (o4.blk K1'.out (by simp; omega))
         have K4' := Lib.hid b4
         clear b4 o4))
    exact bodyPost_ret (results_cell_row rfl _ _ w.heap.size 23 _ (0, 0) _ rfl K4'.out Tryd.underlying23 rfl (tyKy.arrS _)) rfl ⟨_, rfl, rfl, K1.out, P4.out⟩
end Go.Proofs.YthpnmmilioonhaaDoor
/- tx's reader: key, point, out. -/
namespace Go.Proofs.YthpnmmilioonhaaDoor
open Go.RowKit
theorem stepKx_any (l : List UInt8) (hs : l.length ≤ 1000000) (g : Nat) (w0 : World) (hr : Rb w0 g l) (cs : Array Value) (t : TypeId) :
    Calls Tryd.prog 116 #[.pointer (some ⟨g, 0, none⟩), .func (.func 41) #[] #[]] (w0.alloc (.cells cs t)) (EndR VK g w0 (keyR l)) :=
  (stepK_any l hs g _ (hr.alloc _)).mono fun _ _ h => h.from (Past.of_below ((Below.refl _ _).alloc (Nat.le_refl _) _))
set_option maxRecDepth 20000 in
theorem key_r (l : List UInt8) (hs : l.length ≤ 1000000) (g : Nat) (w : World) (hr : Rb w g l) :
    Calls Tryd.prog 110 #[.pointer (some ⟨g, 0, none⟩)] w (EndR VK g w (keyR l)) := by
  have hC := stepK_any l hs g
  have HA := Lib.hid (fun o => (show Rb (w.alloc o) g l from hr.alloc o))
  have P0 := Lib.hid (fun o => (show Past g w (w.alloc o) from Past.of_below ((Below.refl _ _).alloc (Nat.le_refl _) _)))
  have hg : g < w.heap.size := hr.lt
  clear hr
  cases hq : keyR l with
  | error er =>
    rw [hq] at hC
    have HC := Lib.hid hC
    clear hq hC
    go_enter Tryd.func110, Tryd.ntmps110
    go_wp2_with fail
    refine (HC.out _ (HA.out _)).mono ?_
    rintro e w1 ⟨rfl, p1⟩
    exact ⟨rfl, rfl, (P0.out _).trans p1⟩
  | ok x =>
    obtain ⟨k, r⟩ := x
    rw [hq] at hC
    have HC := Lib.hid hC
    clear hq hC
    go_enter Tryd.func110, Tryd.ntmps110
    go_wp2_with fail
    refine (HC.out _ (HA.out _)).mono ?_
    rintro e w1 ⟨v, rfl, rfl, b1, p1⟩
    have K2 := Lib.hid (p1.blk (Blk.new w 23 _) (by omega))
    have P1 := Lib.hid ((P0.out _).trans p1)
    have B1 := Lib.hid b1
    clear b1 p1
    go_wp2_with ((with_reducible refine at_store 2 4 ?_); refine wpList_store_arr rfl 23 (.tmp 2) (.tmp 4) rfl rfl w.heap.size (encK k).toArray rfl rfl 23 _ K2.out (tyKy.arrS _) (by rw [tyKy.arr]; rfl) (tyKy.arr1 _) ?_; intro w2 o2 b2)
    exact bodyPost_ret (results_cell_row rfl _ _ w.heap.size 23 _ (0, 0) _ rfl b2 Tryd.underlying23 rfl (tyKy.arrS _)) rfl ⟨_, rfl, rfl, o2.blk B1.out (by simp; omega), P1.out.new o2 (Nat.le_refl _)⟩
def VP (p : K32 × IntV .u32) (v : Value) (_ : World) : Prop := v = .agg (encKI .u32 p).toArray
def VO (p : IntV .i64 × K32) (v : Value) (_ : World) : Prop := v = .agg (encIK .i64 p).toArray
theorem rest_len {α : Type} {W : α → List UInt8} {R : Rd α} {V : α → Prop} (h : Good W R V) {l r : List UInt8} {a : α} (he : R l = .ok (a, r)) (hs : l.length ≤ 1000000) : r.length ≤ 1000000 := by
  have := (h.bwd _ _ _ he).2
  rw [this, List.length_append] at hs
  omega
theorem built_KI (t : TypeId) (ht : t = 88) (k : K32) (z : IntV .u32) : Tryd.prog.built t [(0, .agg (encK k).toArray), (1, .int .u32 z.1)] = some (encKI .u32 (k, z)).toArray := by
  subst ht
  obtain ⟨l, hl⟩ := k
  iterate 32 (rcases l with _ | ⟨b, l⟩; · simp at hl)
  rcases l with _ | ⟨b, l⟩
  · kernel_rfl
  · simp at hl
theorem built_IK (t : TypeId) (ht : t = 90) (k : K32) (z : IntV .i64) : Tryd.prog.built t [(0, .int .i64 z.1), (1, .agg (encK k).toArray)] = some (encIK .i64 (z, k)).toArray := by
  subst ht
  obtain ⟨l, hl⟩ := k
  iterate 32 (rcases l with _ | ⟨b, l⟩; · simp at hl)
  rcases l with _ | ⟨b, l⟩
  · kernel_rfl
  · simp at hl
set_option maxRecDepth 20000 in
set_option maxHeartbeats 1000000 in
theorem point_r (l : List UInt8) (hs : l.length ≤ 1000000) (g : Nat) (w : World) (hr : Rb w g l) :
    Calls Tryd.prog 107 #[.pointer (some ⟨g, 0, none⟩)] w (EndR VP g w (ptR l)) := by
  have hC := key_r l hs g
  have HA := Lib.hid (fun o => (show Rb (w.alloc o) g l from hr.alloc o))
  have P0 := Lib.hid (fun o => (show Past g w (w.alloc o) from Past.of_below ((Below.refl _ _).alloc (Nat.le_refl _) _)))
  have hg : g < w.heap.size := hr.lt
  clear hr
  cases hq : keyR l with
  | error er =>
    rw [show ptR l = .error er by unfold ptR thenR; rw [hq]]
    rw [hq] at hC
    have HC := Lib.hid hC
    clear hq hC
    go_enter Tryd.func107, Tryd.ntmps107
    go_wp2_with fail
    refine (HC.out _ (HA.out _)).mono ?_
    rintro e w1 ⟨rfl, p1⟩
    exact ⟨rfl, rfl, (P0.out _).trans p1⟩
  | ok x =>
    obtain ⟨k, r⟩ := x
    have hs' := rest_len good_key hq hs
    have hU := u32_r r hs' g
    rw [hq] at hC
    have HC := Lib.hid hC
    cases hq2 : u32R r with
    | error er =>
      rw [show ptR l = .error er by unfold ptR thenR; rw [hq]; simp only [hq2]]
      rw [hq2] at hU
      have HU := Lib.hid hU
      clear hq hC hU hq2 hs'
      go_enter Tryd.func107, Tryd.ntmps107
      go_wp2_with fail
      refine (HC.out _ (HA.out _)).mono ?_
      rintro e w1 ⟨v, rfl, rfl, b1, p1⟩
      have K2 := Lib.hid (p1.blk (Blk.new w 88 _) (by omega))
      have P1 := Lib.hid ((P0.out _).trans p1)
      have B1 := Lib.hid b1
      clear b1 p1
      go_wp2_with ((with_reducible refine at_store 3 5 ?_); refine wpList_store_arr rfl 23 (.tmp 3) (.tmp 5) rfl rfl w1.heap.size (encK k).toArray rfl rfl 23 _ (Blk.new w1 _ _) (tyKy.arrS _) (by rw [tyKy.arr]; rfl) (tyKy.arr1 _) ?_; intro w2 o2 b2)
      have l1 : w.heap.size < w1.heap.size := K2.out.lt
      have lg : g < w1.heap.size := B1.out.lt
      have P2 := Lib.hid (P1.out.trans (Past.of_below (g := g) (((Below.refl _ _).alloc (Nat.le_refl _) _).trans (o2.below (by simp)))))
      have K3 := Lib.hid b2
      replace K2 := Lib.hid (o2.blk (K2.out.alloc _) (by simp; omega))
      have B2 := Lib.hid (o2.blk (B1.out.alloc _) (by simp; omega))
      clear b2 o2 P1 B1 HA P0
      refine wp_region_held_drew (S := fun w' => Past g w w' ∧ (∃ cs : Array Value, cs.size = 33 ∧ Blk w' w.heap.size 88 cs) ∧ Blk w' w1.heap.size 23 (encK k).toArray) (by kernel_rfl) ⟨P2.out.drewN 1, ⟨_, rfl, K2.out.drew⟩, K3.out.drew⟩ ?_
      have B2d : Rb w2.drew g r := B2.out.drew
      have BD := Lib.hid B2d
      clear K2 K3 P2 B2 B2d
      generalize w2.drew = wd at *
      intro hS0
      refine wpAnyH_take (i := 0) (v := .agg (encK k).toArray) rfl (by kernel_rfl) (by kernel_rfl) (by kernel_rfl) (fun _ _ _ h => h) (yieldsIf_load_row (by rfl) 23 (.tmp 3) rfl w1.heap.size rfl 23 (encK k).toArray _ (fun _ h => h.2.2) Tryd.underlying23 rfl (tyKy.arrS _)) hS0 ?_
      simp only [Act.put, List.getElem_toArray, List.getElem_cons_zero, List.setIfInBounds_toArray, List.set_cons_succ, List.set_cons_zero]
      refine wpAnyH_take (i := 1) (v := .pointer (some ⟨g, 0, none⟩)) rfl (by kernel_rfl) (by kernel_rfl) (by kernel_rfl) (fun _ _ _ h => h) (Or.inl ⟨by rfl, fun W _ => by go_simp; try with_reducible rfl⟩) hS0 ?_
      simp only [Act.put, List.getElem_toArray, List.getElem_cons_zero, List.getElem_cons_succ, List.setIfInBounds_toArray, List.set_cons_succ, List.set_cons_zero]
      refine wpAnyH_ready (rs := [2]) (by kernel_rfl) (by simp) ?_
      refine AllReadyH.cons rfl (fun Kq hK => ?_) AllReadyH.nil
      go_simp
      refine (HU.out wd BD.out).mono ?_
      rintro e w3 ⟨rfl, p3⟩
      exact ⟨rfl, rfl, hS0.1.trans p3⟩
    | ok y =>
      obtain ⟨z, r2⟩ := y
      rw [show ptR l = .ok ((k, z), r2) by unfold ptR thenR; rw [hq]; simp only [hq2]]
      rw [hq2] at hU
      have HU := Lib.hid hU
      clear hq hC hU hq2 hs'
      go_enter Tryd.func107, Tryd.ntmps107
      go_wp2_with fail
      refine (HC.out _ (HA.out _)).mono ?_
      rintro e w1 ⟨v, rfl, rfl, b1, p1⟩
      have K2 := Lib.hid (p1.blk (Blk.new w 88 _) (by omega))
      have P1 := Lib.hid ((P0.out _).trans p1)
      have B1 := Lib.hid b1
      clear b1 p1
      go_wp2_with ((with_reducible refine at_store 3 5 ?_); refine wpList_store_arr rfl 23 (.tmp 3) (.tmp 5) rfl rfl w1.heap.size (encK k).toArray rfl rfl 23 _ (Blk.new w1 _ _) (tyKy.arrS _) (by rw [tyKy.arr]; rfl) (tyKy.arr1 _) ?_; intro w2 o2 b2)
      have l1 : w.heap.size < w1.heap.size := K2.out.lt
      have lg : g < w1.heap.size := B1.out.lt
      have P2 := Lib.hid (P1.out.trans (Past.of_below (g := g) (((Below.refl _ _).alloc (Nat.le_refl _) _).trans (o2.below (by simp)))))
      have K3 := Lib.hid b2
      replace K2 := Lib.hid (o2.blk (K2.out.alloc _) (by simp; omega))
      have B2 := Lib.hid (o2.blk (B1.out.alloc _) (by simp; omega))
      clear b2 o2 P1 B1 HA P0
      refine wp_region_held_drew (S := fun w' => Past g w w' ∧ (∃ cs : Array Value, cs.size = 33 ∧ Blk w' w.heap.size 88 cs) ∧ Blk w' w1.heap.size 23 (encK k).toArray) (by kernel_rfl) ⟨P2.out.drewN 1, ⟨_, rfl, K2.out.drew⟩, K3.out.drew⟩ ?_
      have B2d : Rb w2.drew g r := B2.out.drew
      have BD := Lib.hid B2d
      clear K2 K3 P2 B2 B2d
      generalize w2.drew = wd at *
      intro hS0
      refine wpAnyH_take (i := 0) (v := .agg (encK k).toArray) rfl (by kernel_rfl) (by kernel_rfl) (by kernel_rfl) (fun _ _ _ h => h) (yieldsIf_load_row (by rfl) 23 (.tmp 3) rfl w1.heap.size rfl 23 (encK k).toArray _ (fun _ h => h.2.2) Tryd.underlying23 rfl (tyKy.arrS _)) hS0 ?_
      simp only [Act.put, List.getElem_toArray, List.getElem_cons_zero, List.setIfInBounds_toArray, List.set_cons_succ, List.set_cons_zero]
      refine wpAnyH_take (i := 1) (v := .pointer (some ⟨g, 0, none⟩)) rfl (by kernel_rfl) (by kernel_rfl) (by kernel_rfl) (fun _ _ _ h => h) (Or.inl ⟨by rfl, fun W _ => by go_simp; try with_reducible rfl⟩) hS0 ?_
      simp only [Act.put, List.getElem_toArray, List.getElem_cons_zero, List.getElem_cons_succ, List.setIfInBounds_toArray, List.set_cons_succ, List.set_cons_zero]
      refine wpAnyH_ready (rs := [2]) (by kernel_rfl) (by simp) ?_
      refine AllReadyH.cons rfl (fun Kq hK => ?_) AllReadyH.nil
      go_simp
      refine (HU.out wd BD.out).mono ?_
      rintro e w3 ⟨v, rfl, rfl, b3, p3⟩
      obtain ⟨cs, hcs, kcs⟩ := hS0.2.1
      have lt3 : w.heap.size < wd.heap.size := kcs.lt
      refine hK.out _ _ ⟨hS0.1.trans p3, ⟨cs, hcs, p3.blk kcs (by omega)⟩, p3.blk hS0.2.2 (by omega)⟩ (fun hS1 => ?_)
      have B3 := Lib.hid b3
      clear hK Kq b3 p3 BD
      refine wpAnyH_take (i := 3) (v := .agg (encKI .u32 (k, z)).toArray) rfl (by kernel_rfl) (by kernel_rfl) (by kernel_rfl) (fun _ _ _ h => h) (yieldsIf_build (by rfl) 88 #[(0, .tmp 6), (1, .tmp 8)] rfl (encKI .u32 (k, z)).toArray ((congrArg (Tryd.prog.built 88) (show _ = [(0, Value.agg (encK k).toArray), (1, Value.int .u32 z.1)] by kernel_rfl)).trans (built_KI _ rfl k z))) hS1 ?_
      simp only [Act.put, List.getElem_toArray, List.getElem_cons_zero, List.getElem_cons_succ, List.setIfInBounds_toArray, List.set_cons_succ, List.set_cons_zero]
      obtain ⟨cs', hcs', kcs'⟩ := hS1.2.1
      refine wpAnyH_ready (rs := [4]) (by kernel_rfl) (by simp) ?_
      refine AllReadyH.cons rfl (fun Kq hK => ?_) AllReadyH.nil
      refine step_store_arr rfl 88 (.tmp 2) (.tmp 9) rfl rfl w.heap.size (encKI .u32 (k, z)).toArray rfl rfl 88 _ kcs' (tyPt.arrS _) (by rw [tyPt.arr, hcs']) (tyPt.arr1 _) ?_
      intro w4 o4 b4
      refine hK.out _ _ ⟨hS1.1.new o4 (Nat.le_refl _), ⟨_, tyPt.arr _, b4⟩, o4.blk hS1.2.2 (by simp; omega)⟩ (fun hS2 => ?_)
      clear hK Kq
      refine wpAnyH_done (by kernel_rfl) ?_ _
      go_wp2_with fail
      exact bodyPost_ret (results_cell_row rfl _ _ w.heap.size 88 _ (0, 0) _ rfl b4 Tryd.underlying88 rfl (tyPt.arrS _)) rfl ⟨_, rfl, rfl, o4.blk B3.out (by simp; omega), hS2.1⟩
set_option maxRecDepth 20000 in
theorem out_r (l : List UInt8) (hs : l.length ≤ 1000000) (g : Nat) (w : World) (hr : Rb w g l) :
    Calls Tryd.prog 109 #[.pointer (some ⟨g, 0, none⟩)] w (EndR VO g w (outR l)) := by
  have hC := i64_r l hs g
  have HA := Lib.hid (fun o => (show Rb (w.alloc o) g l from hr.alloc o))
  have P0 := Lib.hid (fun o => (show Past g w (w.alloc o) from Past.of_below ((Below.refl _ _).alloc (Nat.le_refl _) _)))
  have hg : g < w.heap.size := hr.lt
  clear hr
  cases hq : i64R l with
  | error er =>
    rw [show outR l = .error er by unfold outR thenR; rw [hq]]
    rw [hq] at hC
    have HC := Lib.hid hC
    clear hq hC
    go_enter Tryd.func109, Tryd.ntmps109
    go_wp2_with fail
    refine (HC.out _ (HA.out _)).mono ?_
    rintro e w1 ⟨rfl, p1⟩
    exact ⟨rfl, rfl, (P0.out _).trans p1⟩
  | ok x =>
    obtain ⟨z, r⟩ := x
    have hs' := rest_len good_i64 hq hs
    have hU := key_r r hs' g
    rw [hq] at hC
    have HC := Lib.hid hC
    cases hq2 : keyR r with
    | error er =>
      rw [show outR l = .error er by unfold outR thenR; rw [hq]; simp only [hq2]]
      rw [hq2] at hU
      have HU := Lib.hid hU
      clear hq hC hU hq2 hs'
      go_enter Tryd.func109, Tryd.ntmps109
      go_wp2_with fail
      refine (HC.out _ (HA.out _)).mono ?_
      rintro e w1 ⟨v, rfl, rfl, b1, p1⟩
      have P1 := Lib.hid ((P0.out _).trans p1)
      have B1 := Lib.hid b1
      clear b1 p1 HA P0
      go_wp2_with fail
      refine (HU.out _ B1.out).mono ?_
      rintro e w3 ⟨rfl, p3⟩
      exact ⟨rfl, rfl, P1.out.trans p3⟩
    | ok y =>
      obtain ⟨k, r2⟩ := y
      rw [show outR l = .ok ((z, k), r2) by unfold outR thenR; rw [hq]; simp only [hq2]]
      rw [hq2] at hU
      have HU := Lib.hid hU
      clear hq hC hU hq2 hs'
      go_enter Tryd.func109, Tryd.ntmps109
      go_wp2_with fail
      refine (HC.out _ (HA.out _)).mono ?_
      rintro e w1 ⟨v, rfl, rfl, b1, p1⟩
      have K2 := Lib.hid (p1.blk (Blk.new w 90 _) (by omega))
      have l1 : w.heap.size < w1.heap.size := K2.out.lt
      have P1 := Lib.hid ((P0.out _).trans p1)
      have B1 := Lib.hid b1
      clear b1 p1 HA P0
      go_wp2_with fail
      refine (HU.out _ B1.out).mono ?_
      rintro e w3 ⟨v, rfl, rfl, b3, p3⟩
      replace K2 := Lib.hid (p3.blk K2.out (by omega))
      have P3 := Lib.hid (P1.out.trans p3)
      have B3 := Lib.hid b3
      clear b3 p3 P1 B1
      go_wp2_with (first
        | ((with_reducible refine at_build 9 ?_); refine wpList_built rfl 90 #[(0, .tmp 6), (1, .tmp 8)] rfl (encIK .i64 (z, k)).toArray ((congrArg (Tryd.prog.built 90) (show _ = [(0, Value.int .i64 z.1), (1, Value.agg (encK k).toArray)] by kernel_rfl)).trans (built_IK _ rfl k z)) ?_)
        | ((with_reducible refine at_store 2 9 ?_); refine wpList_store_arr rfl 90 (.tmp 2) (.tmp 9) rfl rfl w.heap.size (encIK .i64 (z, k)).toArray rfl rfl 90 _ K2.out (tyOut.arrS _) (by rw [tyOut.arr]; rfl) (tyOut.arr1 _) ?_; intro w4 o4 b4))
      exact bodyPost_ret (results_cell_row rfl _ _ w.heap.size 90 _ (0, 0) _ rfl b4 Tryd.underlying90 rfl (tyOut.arrS _)) rfl ⟨_, rfl, rfl, o4.blk B3.out (by simp; omega), P3.out.new o4 (Nat.le_refl _)⟩
end Go.Proofs.YthpnmmilioonhaaDoor
/- tx.list at its three types. Written by genList.py. -/
namespace Go.Proofs.YthpnmmilioonhaaDoor
open Go.RowKit
def contL {α : Type} (pre : List α) (x : Except Int (List α × List UInt8)) : Except Int (List α × List UInt8) := match x with
  | .error e => .error e
  | .ok (l, r) => .ok (pre ++ l, r)
theorem listR_err {α : Type} {R : Rd α} {m : Nat} {r : List UInt8} {e : Int} (h : R r = .error e) : listR R (m + 1) r = .error e := by
  simp only [listR, mapR, thenR, h]
theorem listR_ok {α : Type} {R : Rd α} {m : Nat} {r r2 : List UInt8} {a : α} (h : R r = .ok (a, r2)) (pre : List α) : contL pre (listR R (m + 1) r) = contL (pre ++ [a]) (listR R m r2) := by
  simp only [listR, mapR, thenR, h]
  cases listR R m r2 with
  | error e => rfl
  | ok p => obtain ⟨l, r⟩ := p; simp [contL]
/-- a slice of what was read, whole in a block of its own -/
def VL {α : Type} (enc : α → List Value) (e : TypeId) (l : List α) (v : Value) (w : World) : Prop := ∃ h, v = .slice (some ⟨h, 0, none⟩) l.length l.length ∧ Blk w h e (cellsOf enc l).toArray
theorem set_fill {α : Type} (l : List α) (z a : α) (m : Nat) : (l ++ List.replicate (m + 1) z).set l.length a = (l ++ [a]) ++ List.replicate m z := by
  rw [List.replicate_succ]
  simp
set_option maxRecDepth 20000 in
set_option maxHeartbeats 1000000 in
theorem listPt_r (n : Nat) (hn : n ≤ 1000) (l : List UInt8) (hs : l.length ≤ 1000000) (g : Nat) (w : World) (hr : Rb w g l) :
    Calls Tryd.prog 105 #[.int .i64 n, .func (.func 107) #[.pointer (some ⟨g, 0, none⟩)] #[]] w (EndR (VL (encKI .u32) 88) g w (listR ptR n l)) := by
  have hmk : ∀ W, (Instr.makeSlice 28 (.int .i64 (n : Int)) (.int .i64 (n : Int))).run Tryd.prog W = .ok (.slice (some ⟨W.heap.size, 0, none⟩) n n) (W.alloc (.cells (cellsOf (encKI .u32) (List.replicate n (zeroKey, txZero.exp))).toArray 88)) := fun W =>
    tyPt.made W (zeroKey, txZero.exp) (.agg (encKI .u32 (zeroKey, txZero.exp)).toArray) 36 (by kernel_rfl) rfl (by omega) .i64 .i64 n (by omega)
  have hg : g < w.heap.size := hr.lt
  obtain ⟨X, hX⟩ : ∃ X, listR ptR n l = X := ⟨_, rfl⟩
  rw [hX]
  have HX := Lib.hid hX
  have HR := Lib.hid hr
  clear hr hX
  go_enter Tryd.func105, Tryd.ntmps105
  go_wp2_with fail
  clear hmk
  go_loopw [11] (fun i wr => ∃ (lst : List (K32 × IntV .u32)) (r : List UInt8) (m : Nat), lst.length + m = n ∧ i = .int .i64 (lst.length : Nat) ∧ Hid (X = contL lst (listR ptR m r) ∧ r.length ≤ 1000000) ∧ Hid (Rb wr g r ∧ Blk wr w.heap.size 88 (cellsOf (encKI .u32) (lst ++ List.replicate m (zeroKey, txZero.exp))).toArray ∧ Past g w wr)) (fun i _ => n - (intOf i).toNat)
  case atStart =>
    refine ⟨[], l, n, by simp, rfl, Lib.hid ⟨?_, hs⟩, Lib.hid ⟨HR.out.alloc _, ?_, Past.of_below ((Below.refl _ _).alloc (Nat.le_refl _) _)⟩⟩
    · rw [HX.out]; cases X <;> rfl
    · exact Blk.new w _ _
  case round =>
    obtain ⟨lst, r, m, hlm, rfl, hx, hw⟩ := hrel
    obtain ⟨j, hj⟩ : ∃ j, lst.length = j := ⟨_, rfl⟩
    have HJ := Lib.hid hj
    rw [hj]
    cases m with
    | zero =>
      have hjn : j = n := by omega
      clear hlm hj
      subst hjn
      go_wp2
      go_ret
      rw [hx.out.1]
      refine ⟨_, rfl, ⟨w.heap.size, ?_, ?_⟩, hw.out.1, hw.out.2.2⟩
      · rw [List.append_nil, HJ.out]; rfl
      · have := hw.out.2.1
        simpa using this
    | succ m =>
      have hlt : j < n := by omega
      clear hj
      have hc := point_r r hx.out.2 g wr hw.out.1
      cases hq : ptR r with
      | error er =>
        rw [hq] at hc
        have HC := Lib.hid hc
        have HE := Lib.hid (show X = .error er by rw [hx.out.1, listR_err hq]; rfl)
        clear hc hq hlm
        go_wp2_with fail
        refine HC.out.mono ?_
        rintro e w1 ⟨rfl, p1⟩
        refine ⟨rfl, ?_⟩
        rw [HE.out]
        exact ⟨rfl, hw.out.2.2.trans p1⟩
      | ok x =>
        obtain ⟨a, r2⟩ := x
        rw [hq] at hc
        have HC := Lib.hid hc
        have HE := Lib.hid (show X = contL (lst ++ [a]) (listR ptR m r2) by rw [hx.out.1, listR_ok hq])
        have HS := Lib.hid (rest_len good_pt hq hx.out.2)
        clear hc hq
        go_wp2_with fail
        refine HC.out.mono ?_
        rintro e w1 ⟨v, rfl, rfl, b1, p1⟩
        have KH := Lib.hid (p1.blk hw.out.2.1 (by omega))
        have P1 := Lib.hid (hw.out.2.2.trans p1)
        have B1 := Lib.hid b1
        have HLM := Lib.hid hlm
        clear b1 p1 HC hx hw hlm
        go_wp2_with ((with_reducible refine at_store 18 17 ?_); refine tyPt.wpList_store rfl (.tmp 18) (.tmp 17) rfl rfl w.heap.size j a rfl rfl 88 _ KH.out (by rw [List.length_append, HJ.out, List.length_replicate]; omega) ?_; intro w2 o2 b2)
        have K2 := Lib.hid (show Blk w2 w.heap.size 88 (cellsOf (encKI .u32) ((lst ++ [a]) ++ List.replicate m (zeroKey, txZero.exp))).toArray by rw [← set_fill, HJ.out]; exact b2)
        have e1 : (lst ++ [a]).length = j + 1 := by rw [List.length_append, HJ.out]; rfl
        clear b2
        go_roundw
        case rel => exact ⟨lst ++ [a], r2, m, by rw [e1]; have h1 := HLM.out; have h2 := HJ.out; omega, by rw [e1]; go_num, Lib.hid ⟨HE.out, HS.out⟩, Lib.hid ⟨o2.blk B1.out (by simp; omega), K2.out, P1.out.new o2 (Nat.le_refl _)⟩⟩
        case measure =>
          have h2 := HJ.out
          simp [intOf]
          omega
set_option maxRecDepth 20000 in
set_option maxHeartbeats 1000000 in
theorem listOut_r (n : Nat) (hn : n ≤ 1000) (l : List UInt8) (hs : l.length ≤ 1000000) (g : Nat) (w : World) (hr : Rb w g l) :
    Calls Tryd.prog 108 #[.int .i64 n, .func (.func 109) #[.pointer (some ⟨g, 0, none⟩)] #[]] w (EndR (VL (encIK .i64) 90) g w (listR outR n l)) := by
  have hmk : ∀ W, (Instr.makeSlice 29 (.int .i64 (n : Int)) (.int .i64 (n : Int))).run Tryd.prog W = .ok (.slice (some ⟨W.heap.size, 0, none⟩) n n) (W.alloc (.cells (cellsOf (encIK .i64) (List.replicate n (txZero.bal, zeroKey))).toArray 90)) := fun W =>
    tyOut.made W (txZero.bal, zeroKey) (.agg (encIK .i64 (txZero.bal, zeroKey)).toArray) 40 (by kernel_rfl) rfl (by omega) .i64 .i64 n (by omega)
  have hg : g < w.heap.size := hr.lt
  obtain ⟨X, hX⟩ : ∃ X, listR outR n l = X := ⟨_, rfl⟩
  rw [hX]
  have HX := Lib.hid hX
  have HR := Lib.hid hr
  clear hr hX
  go_enter Tryd.func108, Tryd.ntmps108
  go_wp2_with fail
  clear hmk
  go_loopw [11] (fun i wr => ∃ (lst : List (IntV .i64 × K32)) (r : List UInt8) (m : Nat), lst.length + m = n ∧ i = .int .i64 (lst.length : Nat) ∧ Hid (X = contL lst (listR outR m r) ∧ r.length ≤ 1000000) ∧ Hid (Rb wr g r ∧ Blk wr w.heap.size 90 (cellsOf (encIK .i64) (lst ++ List.replicate m (txZero.bal, zeroKey))).toArray ∧ Past g w wr)) (fun i _ => n - (intOf i).toNat)
  case atStart =>
    refine ⟨[], l, n, by simp, rfl, Lib.hid ⟨?_, hs⟩, Lib.hid ⟨HR.out.alloc _, ?_, Past.of_below ((Below.refl _ _).alloc (Nat.le_refl _) _)⟩⟩
    · rw [HX.out]; cases X <;> rfl
    · exact Blk.new w _ _
  case round =>
    obtain ⟨lst, r, m, hlm, rfl, hx, hw⟩ := hrel
    obtain ⟨j, hj⟩ : ∃ j, lst.length = j := ⟨_, rfl⟩
    have HJ := Lib.hid hj
    rw [hj]
    cases m with
    | zero =>
      have hjn : j = n := by omega
      clear hlm hj
      subst hjn
      go_wp2
      go_ret
      rw [hx.out.1]
      refine ⟨_, rfl, ⟨w.heap.size, ?_, ?_⟩, hw.out.1, hw.out.2.2⟩
      · rw [List.append_nil, HJ.out]; rfl
      · have := hw.out.2.1
        simpa using this
    | succ m =>
      have hlt : j < n := by omega
      clear hj
      have hc := out_r r hx.out.2 g wr hw.out.1
      cases hq : outR r with
      | error er =>
        rw [hq] at hc
        have HC := Lib.hid hc
        have HE := Lib.hid (show X = .error er by rw [hx.out.1, listR_err hq]; rfl)
        clear hc hq hlm
        go_wp2_with fail
        refine HC.out.mono ?_
        rintro e w1 ⟨rfl, p1⟩
        refine ⟨rfl, ?_⟩
        rw [HE.out]
        exact ⟨rfl, hw.out.2.2.trans p1⟩
      | ok x =>
        obtain ⟨a, r2⟩ := x
        rw [hq] at hc
        have HC := Lib.hid hc
        have HE := Lib.hid (show X = contL (lst ++ [a]) (listR outR m r2) by rw [hx.out.1, listR_ok hq])
        have HS := Lib.hid (rest_len good_out hq hx.out.2)
        clear hc hq
        go_wp2_with fail
        refine HC.out.mono ?_
        rintro e w1 ⟨v, rfl, rfl, b1, p1⟩
        have KH := Lib.hid (p1.blk hw.out.2.1 (by omega))
        have P1 := Lib.hid (hw.out.2.2.trans p1)
        have B1 := Lib.hid b1
        have HLM := Lib.hid hlm
        clear b1 p1 HC hx hw hlm
        go_wp2_with ((with_reducible refine at_store 18 17 ?_); refine tyOut.wpList_store rfl (.tmp 18) (.tmp 17) rfl rfl w.heap.size j a rfl rfl 90 _ KH.out (by rw [List.length_append, HJ.out, List.length_replicate]; omega) ?_; intro w2 o2 b2)
        have K2 := Lib.hid (show Blk w2 w.heap.size 90 (cellsOf (encIK .i64) ((lst ++ [a]) ++ List.replicate m (txZero.bal, zeroKey))).toArray by rw [← set_fill, HJ.out]; exact b2)
        have e1 : (lst ++ [a]).length = j + 1 := by rw [List.length_append, HJ.out]; rfl
        clear b2
        go_roundw
        case rel => exact ⟨lst ++ [a], r2, m, by rw [e1]; have h1 := HLM.out; have h2 := HJ.out; omega, by rw [e1]; go_num, Lib.hid ⟨HE.out, HS.out⟩, Lib.hid ⟨o2.blk B1.out (by simp; omega), K2.out, P1.out.new o2 (Nat.le_refl _)⟩⟩
        case measure =>
          have h2 := HJ.out
          simp [intOf]
          omega
set_option maxRecDepth 20000 in
set_option maxHeartbeats 1000000 in
theorem listKey_r (n : Nat) (hn : n ≤ 1000) (l : List UInt8) (hs : l.length ≤ 1000000) (g : Nat) (w : World) (hr : Rb w g l) :
    Calls Tryd.prog 111 #[.int .i64 n, .func (.func 110) #[.pointer (some ⟨g, 0, none⟩)] #[]] w (EndR (VL (encK) 23) g w (listR keyR n l)) := by
  have hmk : ∀ W, (Instr.makeSlice 30 (.int .i64 (n : Int)) (.int .i64 (n : Int))).run Tryd.prog W = .ok (.slice (some ⟨W.heap.size, 0, none⟩) n n) (W.alloc (.cells (cellsOf (encK) (List.replicate n zeroKey)).toArray 23)) := fun W =>
    tyKy.made W zeroKey (.agg (encK zeroKey).toArray) 32 (by kernel_rfl) rfl (by omega) .i64 .i64 n (by omega)
  have hg : g < w.heap.size := hr.lt
  obtain ⟨X, hX⟩ : ∃ X, listR keyR n l = X := ⟨_, rfl⟩
  rw [hX]
  have HX := Lib.hid hX
  have HR := Lib.hid hr
  clear hr hX
  go_enter Tryd.func111, Tryd.ntmps111
  go_wp2_with fail
  clear hmk
  go_loopw [11] (fun i wr => ∃ (lst : List (K32)) (r : List UInt8) (m : Nat), lst.length + m = n ∧ i = .int .i64 (lst.length : Nat) ∧ Hid (X = contL lst (listR keyR m r) ∧ r.length ≤ 1000000) ∧ Hid (Rb wr g r ∧ Blk wr w.heap.size 23 (cellsOf (encK) (lst ++ List.replicate m zeroKey)).toArray ∧ Past g w wr)) (fun i _ => n - (intOf i).toNat)
  case atStart =>
    refine ⟨[], l, n, by simp, rfl, Lib.hid ⟨?_, hs⟩, Lib.hid ⟨HR.out.alloc _, ?_, Past.of_below ((Below.refl _ _).alloc (Nat.le_refl _) _)⟩⟩
    · rw [HX.out]; cases X <;> rfl
    · exact Blk.new w _ _
  case round =>
    obtain ⟨lst, r, m, hlm, rfl, hx, hw⟩ := hrel
    obtain ⟨j, hj⟩ : ∃ j, lst.length = j := ⟨_, rfl⟩
    have HJ := Lib.hid hj
    rw [hj]
    cases m with
    | zero =>
      have hjn : j = n := by omega
      clear hlm hj
      subst hjn
      go_wp2
      go_ret
      rw [hx.out.1]
      refine ⟨_, rfl, ⟨w.heap.size, ?_, ?_⟩, hw.out.1, hw.out.2.2⟩
      · rw [List.append_nil, HJ.out]; rfl
      · have := hw.out.2.1
        simpa using this
    | succ m =>
      have hlt : j < n := by omega
      clear hj
      have hc := key_r r hx.out.2 g wr hw.out.1
      cases hq : keyR r with
      | error er =>
        rw [hq] at hc
        have HC := Lib.hid hc
        have HE := Lib.hid (show X = .error er by rw [hx.out.1, listR_err hq]; rfl)
        clear hc hq hlm
        go_wp2_with fail
        refine HC.out.mono ?_
        rintro e w1 ⟨rfl, p1⟩
        refine ⟨rfl, ?_⟩
        rw [HE.out]
        exact ⟨rfl, hw.out.2.2.trans p1⟩
      | ok x =>
        obtain ⟨a, r2⟩ := x
        rw [hq] at hc
        have HC := Lib.hid hc
        have HE := Lib.hid (show X = contL (lst ++ [a]) (listR keyR m r2) by rw [hx.out.1, listR_ok hq])
        have HS := Lib.hid (rest_len good_key hq hx.out.2)
        clear hc hq
        go_wp2_with fail
        refine HC.out.mono ?_
        rintro e w1 ⟨v, rfl, rfl, b1, p1⟩
        have KH := Lib.hid (p1.blk hw.out.2.1 (by omega))
        have P1 := Lib.hid (hw.out.2.2.trans p1)
        have B1 := Lib.hid b1
        have HLM := Lib.hid hlm
        clear b1 p1 HC hx hw hlm
        go_wp2_with ((with_reducible refine at_store 18 17 ?_); refine tyKy.wpList_store rfl (.tmp 18) (.tmp 17) rfl rfl w.heap.size j a rfl rfl 23 _ KH.out (by rw [List.length_append, HJ.out, List.length_replicate]; omega) ?_; intro w2 o2 b2)
        have K2 := Lib.hid (show Blk w2 w.heap.size 23 (cellsOf (encK) ((lst ++ [a]) ++ List.replicate m zeroKey)).toArray by rw [← set_fill, HJ.out]; exact b2)
        have e1 : (lst ++ [a]).length = j + 1 := by rw [List.length_append, HJ.out]; rfl
        clear b2
        go_roundw
        case rel => exact ⟨lst ++ [a], r2, m, by rw [e1]; have h1 := HLM.out; have h2 := HJ.out; omega, by rw [e1]; go_num, Lib.hid ⟨HE.out, HS.out⟩, Lib.hid ⟨o2.blk B1.out (by simp; omega), K2.out, P1.out.new o2 (Nat.le_refl _)⟩⟩
        case measure =>
          have h2 := HJ.out
          simp [intOf]
          omega
end Go.Proofs.YthpnmmilioonhaaDoor
/- tx's reader: what it holds while a transaction is read. -/
namespace Go.Proofs.YthpnmmilioonhaaDoor
open Go.RowKit
section
variable {P : Program} {e : TypeId} {α : Type} {enc : α → List Value} {k : Nat} (T : CellTy P e enc k)
include T
/-- a store of a value of k cells into the midst of a block -/
theorem CellTy.wpList_storeAt {ops : Array Oper} {rest : List Oper} {o : Oper} {a : Act} {w : World} {Q : Exit → Act → World → Prop} (hgd : o.guard = none) (x y : Operand) (ho : o.op = .store e x y)
    (hd : o.dst = none) (g off : Nat) (v : α) (hx : a.eval x = .pointer (some ⟨g, off, none⟩)) (hy : a.eval y = .agg (enc v).toArray) (te : TypeId) (cs : List Value) (hg : Blk w g te cs.toArray) (hfit : off + k ≤ cs.length)
    (h : ∀ w', Only [g] w w' → Blk w' g te (cs.take off ++ enc v ++ cs.drop (off + k)).toArray → wpList P ops Q rest a w') : wpList P ops Q (o :: rest) a w :=
  wpList_plain hgd fun _ hK => by
    have hst := run_storeCells_at P g off te (enc v) 0 _ w hg (by rw [T.len, Nat.add_zero, List.size_toArray]; exact hfit) (T.one v)
    rw [Nat.add_zero, T.len] at hst
    have hs : cs.toArray.toList = cs := by simp
    rw [hs] at hst
    have hrun : (storeVar e ⟨g, off, none⟩ (.agg (enc v).toArray)).run P w = .ok () (w.setRow g (cs.take off ++ enc v ++ cs.drop (off + k)).toArray) := by
      simp [storeVar, T.sizeOf, Value.cells, T.len, hst]
    unfold Oper.wp execOp
    simp only [ho, hx, hy, Instr.storeAt, Instr.sureAddr, Sem.run_bind, Sem.run_pure, Result.andThen_ok, hrun]
    rw [Oper.upon_skip, hd]
    exact hK _ _ (h _ (only_setRow hg _).1 (only_setRow hg _).2)
end
theorem tyKc : CellTy Tryd.prog 23 encK 32 := ⟨tyKy.size, tyKy.len, tyKy.one, tyKy.agg⟩
/-- a list that lies whole in a block of its own, or nowhere -/
def LB {α : Type} (enc : α → List Value) (e : TypeId) (w : World) (A : Option Addr) (c : Nat) (l : List α) : Prop :=
  (A = none ∧ c = 0 ∧ l = []) ∨ ∃ h, A = some ⟨h, 0, none⟩ ∧ c = l.length ∧ Blk w h e (cellsOf enc l).toArray
section
variable {α : Type} {enc : α → List Value} {e : TypeId} {w w' : World} {A : Option Addr} {c : Nat} {l : List α}
theorem LB.past (h : LB enc e w A c l) {g : Nat} (hp : Past g w w') {t : TypeId} {cs : Array Value} (hg : Blk w g t cs) (hne : e ≠ t) : LB enc e w' A c l := by
  rcases h with h | ⟨b, h1, h2, h3⟩
  · exact .inl h
  · exact .inr ⟨b, h1, h2, hp.blk h3 (h3.ne_ hg hne)⟩
theorem LB.only (h : LB enc e w A c l) {g : Nat} (ho : Only [g] w w') {t : TypeId} {cs : Array Value} (hg : Blk w g t cs) (hne : e ≠ t) : LB enc e w' A c l := by
  rcases h with h | ⟨b, h1, h2, h3⟩
  · exact .inl h
  · exact .inr ⟨b, h1, h2, ho.blk h3 (by have := h3.ne_ hg hne; simpa using this)⟩
theorem LB.row {k : Nat} (h : LB enc e w A c l) (hm : l.length ≤ maxLen) : RowIn enc k w w.heap.size A c l := by
  rcases h with ⟨rfl, rfl, rfl⟩ | ⟨b, rfl, rfl, h3⟩
  · exact RowIn.nil (Nat.zero_le _)
  · exact (rowIn_blk h3 (Nat.le_refl _) hm).more h3.lt
theorem LB.mk {v : Value} (h : VL enc e l v w) : ∃ A, v = .slice A l.length l.length ∧ LB enc e w A l.length l := by
  obtain ⟨b, h1, h2⟩ := h
  exact ⟨_, h1, .inr ⟨b, rfl, rfl, h2⟩⟩
end
def aZ : TxA := ⟨txZero, none, 0, none, 0, none, 0, none, 0⟩
/-- the lists of a transaction, each in a block of its own -/
structure TL (w : World) (a : TxA) : Prop where
  ins : LB (encKI .u32) 88 w a.Ai a.ci a.T.ins
  outs : LB (encIK .i64) 90 w a.Ao a.co a.T.outs
  nulls : LB encK 23 w a.An a.cn a.T.nulls
  notes : LB encK 23 w a.At a.ct a.T.notes
/-- what the reader holds: the bytes left at g, the answer's place g2, the transaction at g3 -/
structure RdSt (w0 : World) (g g2 g3 : Nat) (a : TxA) (w : World) (r : List UInt8) : Prop where
  rb : Rb w g r
  len : r.length ≤ 1000000
  past : Past g w0 w
  k2 : ∃ cs : Array Value, cs.size = 38 ∧ Blk w g2 32 cs
  k3 : Blk w g3 32 a.cells.toArray
  ne : g2 ≠ g3
  new2 : w0.heap.size ≤ g2
  new3 : w0.heap.size ≤ g3
  tl : TL w a
section
variable {w0 w w' : World} {g g2 g3 : Nat} {a a' : TxA} {r r' : List UInt8}
theorem TL.past (h : TL w a) (hp : Past g w w') (hr : Rb w g r) : TL w' a :=
  ⟨h.ins.past hp hr (by decide), h.outs.past hp hr (by decide), h.nulls.past hp hr (by decide), h.notes.past hp hr (by decide)⟩
theorem TL.only (h : TL w a) {cs : Array Value} (ho : Only [g] w w') (hg : Blk w g 32 cs) : TL w' a :=
  ⟨h.ins.only ho hg (by decide), h.outs.only ho hg (by decide), h.nulls.only ho hg (by decide), h.notes.only ho hg (by decide)⟩
theorem RdSt.call (h : RdSt w0 g g2 g3 a w r) (hp : Past g w w') (hr : Rb w' g r') (hl : r'.length ≤ 1000000) : RdSt w0 g g2 g3 a w' r' where
  rb := hr
  len := hl
  past := h.past.trans hp
  k2 := by obtain ⟨cs, h1, h2⟩ := h.k2; exact ⟨cs, h1, hp.blk h2 (h2.ne_ h.rb (by decide))⟩
  k3 := hp.blk h.k3 (h.k3.ne_ h.rb (by decide))
  ne := h.ne
  new2 := h.new2
  new3 := h.new3
  tl := h.tl.past hp h.rb
theorem RdSt.set (h : RdSt w0 g g2 g3 a w r) (ho : Only [g3] w w') (hk : Blk w' g3 32 a'.cells.toArray) (ht : TL w' a') : RdSt w0 g g2 g3 a' w' r where
  rb := ho.blk h.rb (by have := h.rb.ne_ h.k3 (by decide); simpa using this)
  len := h.len
  past := h.past.new ho h.new3
  k2 := by obtain ⟨cs, h1, h2⟩ := h.k2; exact ⟨cs, h1, ho.blk h2 (by have := h.ne; simpa using this)⟩
  k3 := hk
  ne := h.ne
  new2 := h.new2
  new3 := h.new3
  tl := ht
end
theorem TL.inn {w : World} {a : TxA} (h : TL w a) (hok : OkTx a.T) : a.In w w.heap.size :=
  ⟨h.ins.row (Nat.le_trans hok.1 (by decide)), h.outs.row (Nat.le_trans hok.2.1 (by decide)), h.nulls.row (Nat.le_trans hok.2.2.1 (by decide)), h.notes.row (Nat.le_trans hok.2.2.2.1 (by decide))⟩
theorem TxA.set_anchor (a : TxA) (k : K32) : (a.cells.take 3 ++ encK k ++ a.cells.drop (3 + 32)) = (({ a with T := { a.T with anchor := k } } : TxA)).cells := by
  have hl := encK_len a.T.anchor
  simp [TxA.cells, txCells, hl]
theorem TxA.set_exp (a : TxA) (z : IntV .u32) : a.cells.toArray.setIfInBounds 0 (.int .u32 z.1) = (({ a with T := { a.T with exp := z } } : TxA)).cells.toArray := tx_set_exp z
theorem TxA.set_ins' (a : TxA) (l : List (K32 × IntV .u32)) (A : Option Addr) (c : Nat) : a.cells.toArray.setIfInBounds 1 (.slice A l.length c) = (({ a with T := { a.T with ins := l }, Ai := A, ci := c } : TxA)).cells.toArray := tx_set_ins l A c
theorem TxA.set_outs (a : TxA) (l : List (IntV .i64 × K32)) (A : Option Addr) (c : Nat) : a.cells.toArray.setIfInBounds 2 (.slice A l.length c) = (({ a with T := { a.T with outs := l }, Ao := A, co := c } : TxA)).cells.toArray := tx_set_outs l A c
theorem TxA.set_nulls (a : TxA) (l : List K32) (A : Option Addr) (c : Nat) : a.cells.toArray.setIfInBounds 35 (.slice A l.length c) = (({ a with T := { a.T with nulls := l }, An := A, cn := c } : TxA)).cells.toArray := tx_set_nulls l A c
theorem TxA.set_notes (a : TxA) (l : List K32) (A : Option Addr) (c : Nat) : a.cells.toArray.setIfInBounds 36 (.slice A l.length c) = (({ a with T := { a.T with notes := l }, At := A, ct := c } : TxA)).cells.toArray := tx_set_notes l A c
theorem TxA.set_bal (a : TxA) (z : IntV .i64) : a.cells.toArray.setIfInBounds 37 (.int .i64 z.1) = (({ a with T := { a.T with bal := z } } : TxA)).cells.toArray := tx_set_bal z
theorem kcast {w : World} {g : Nat} {t : TypeId} {cs cs' : Array Value} (h : cs = cs') (hb : Blk w g t cs) : Blk w g t cs' := h ▸ hb
end Go.Proofs.YthpnmmilioonhaaDoor
/- Rows of its own that a function appends to: what holds of them as the world goes on. -/
namespace Go.Proofs.YthpnmmilioonhaaDoor
open Go.RowKit
theorem xown_from {w W : World} {base : Nat} {e : TypeId} {size n : Nat} {v : Value} {xs : List Value} (h : w.ownsRow base e size v n xs) (hb : Below w.heap.size w W) : W.ownsRow base e size v n xs :=
  ⟨h.1, h.2.imp id fun ⟨g, cap, cur, h1, h2, h3, h4⟩ => ⟨g, cap, cur, h1, h2, (hb.block g (by
    rcases Nat.lt_or_ge g w.heap.size with hlt | hge
    · exact hlt
    · rw [Array.getElem?_eq_none hge] at h3; cases h3)).trans h3, h4⟩⟩
theorem xown_grown {w w' : World} {base : Nat} {e : TypeId} {size n : Nat} {v : Value} {xs : List Value} (h : w.ownsRow base e size v n xs) (hg : w.grownBy w' v.ownBlock) (hB : base ≤ w.heap.size) : Below base w w' := (Below.refl _ _).grown hg hB (own_base h)
theorem xown_nil {w : World} {g : Nat} {base : Nat} {e : TypeId} {k : Nat} (hb : Blk w g e #[]) (hg : base ≤ g) : w.ownsRow base e k (.slice (some ⟨g, 0, none⟩) 0 0) 0 [] :=
  ⟨by simp, .inr ⟨g, 0, #[], rfl, hg, hb, Nat.le_refl _, Nat.zero_le _, by simp, by simp⟩⟩
theorem xown_base {w : World} {b b' : Nat} {e : TypeId} {k n : Nat} {v : Value} {xs : List Value} (h : w.ownsRow b e k v n xs) (hb : b' ≤ b) : w.ownsRow b' e k v n xs :=
  ⟨h.1, h.2.imp id fun ⟨g, cap, cur, h1, h2, h3, h4⟩ => ⟨g, cap, cur, h1, Nat.le_trans hb h2, h3, h4⟩⟩
/-- an own row that holds as a store goes elsewhere -/
theorem xown_only {w w' : World} {g base : Nat} {e t : TypeId} {k n : Nat} {v : Value} {xs : List Value} {cs : Array Value} (h : w.ownsRow base e k v n xs) (ho : Only [g] w w') (hg : Blk w g t cs) (hne : e ≠ t) : w'.ownsRow base e k v n xs :=
  ⟨h.1, h.2.imp id fun ⟨b, cap, cur, h1, h2, h3, h4⟩ => ⟨b, cap, cur, h1, h2, ho.blk h3 (by have := Blk.ne_ (w := w) h3 hg hne; simpa using this), h4⟩⟩
theorem row_own {w : World} {α : Type} {enc : α → List Value} {k b c : Nat} {e : TypeId} {A : Option Addr} {l : List α} (hk : ∀ x, (enc x).length = k) (h : w.ownsRow b e k (.slice A l.length c) l.length (cellsOf enc l)) : RowIn enc k w w.heap.size A c l := by
  obtain ⟨A', c', hv, hr⟩ := RowIn.of_own hk h
  injection hv with h1 h2 h3
  subst h1 h3
  exact hr
theorem zcKy : ((Tryd.prog.info? 23).bind (·.zero)).map (·.cells.size) = some 32 := by kernel_rfl
theorem zbKy : (Tryd.prog.info? 23).map (·.bytes) = some 32 := by kernel_rfl
theorem zsKy : ((Tryd.prog.info? 23).bind (·.zero)).isSome = true := by kernel_rfl
theorem zcPt : ((Tryd.prog.info? 88).bind (·.zero)).map (·.cells.size) = some 33 := by kernel_rfl
theorem zbPt : (Tryd.prog.info? 88).map (·.bytes) = some 36 := by kernel_rfl
theorem zsPt : ((Tryd.prog.info? 88).bind (·.zero)).isSome = true := by kernel_rfl
theorem zcOut : ((Tryd.prog.info? 90).bind (·.zero)).map (·.cells.size) = some 33 := by kernel_rfl
theorem zbOut : (Tryd.prog.info? 90).map (·.bytes) = some 40 := by kernel_rfl
theorem zsOut : ((Tryd.prog.info? 90).bind (·.zero)).isSome = true := by kernel_rfl
end Go.Proofs.YthpnmmilioonhaaDoor
/- tx's reader: a transaction is read. Written by genTx.py. -/
namespace Go.Proofs.YthpnmmilioonhaaDoor
open Go.RowKit
/-- a transaction as an answer -/
def VT (T : TxV) (v : Value) (w : World) : Prop := ∃ a : TxA, a.T = T ∧ v = .agg a.cells.toArray ∧ TL w a
set_option maxRecDepth 20000 in
set_option maxHeartbeats 4000000 in
theorem tx_r (r0 : List UInt8) (hs : r0.length ≤ 1000000) (g : Nat) (w : World) (hr : Rb w g r0) :
    Calls Tryd.prog 101 #[.pointer (some ⟨g, 0, none⟩)] w (EndR VT g w (txR r0)) := by
  have hmf : ∀ (fn : Fn) (first cap : Array Value) (w : World), (Instr.makeFunc fn first cap).run Tryd.prog w = .ok (.func fn first cap) w := fun _ _ _ _ => rfl
  obtain ⟨X, hX⟩ : ∃ X, txR r0 = X := ⟨_, rfl⟩
  rw [hX]
  have HX := Lib.hid hX
  have ST0 : ∀ c2 c3 : Array Value, c2.size = 38 → c3 = aZ.cells.toArray → RdSt w g w.heap.size (w.heap.size + 1) aZ ((w.alloc (.cells c2 32)).alloc (.cells c3 32)) r0 := fun c2 c3 h2 h3 =>
    ⟨(hr.alloc _).alloc _, hs, Past.of_below (((Below.refl _ _).alloc (Nat.le_refl _) _).alloc (by simp) _), ⟨_, h2, (Blk.new w _ _).alloc _⟩, h3 ▸ blk_new _ _ (by simp), by omega, Nat.le_refl _, by omega, ⟨.inl ⟨rfl, rfl, rfl⟩, .inl ⟨rfl, rfl, rfl⟩, .inl ⟨rfl, rfl, rfl⟩, .inl ⟨rfl, rfl, rfl⟩⟩⟩
  have HST := Lib.hid ST0
  have HRA := Lib.hid (fun cs => (show Rb (w.alloc (.cells cs 32)) g r0 from hr.alloc _))
  have HPA := Lib.hid (fun c2 c3 => (show Past g w ((w.alloc (.cells c2 32)).alloc (.cells c3 32)) from Past.of_below (((Below.refl _ _).alloc (Nat.le_refl _) _).alloc (by simp) _)))
  clear hX hr ST0
  go_enter Tryd.func101, Tryd.ntmps101
  go_wp2_with fail
  have hc := u32_r r0 hs g
  cases hq0 : u32R r0 with
  | error er =>
    rw [hq0] at hc
    have HE := Lib.hid (show X = .error er by rw [← HX.out]; simp only [txR, mapR, thenR, hq0])
    have HC := Lib.hid hc
    clear hq0 hc
    refine (HC.out _ ((HRA.out _).alloc _)).mono ?_
    rintro e wx ⟨rfl, px⟩
    refine ⟨rfl, ?_⟩
    rw [HE.out]
    exact ⟨rfl, (HPA.out _ _).trans px⟩
  | ok x =>
    obtain ⟨z0, r1⟩ := x
    rw [hq0] at hc
    have HQ0 := Lib.hid hq0
    have hl := rest_len good_u32 hq0 hs
    have HC := Lib.hid hc
    have HL := Lib.hid hl
    clear hq0 hc hl
    refine (HC.out _ ((HRA.out _).alloc _)).mono ?_
    rintro e w1 ⟨v, rfl, hv, bx, px⟩
    have hv' : v = .int .u32 z0.1 := hv
    subst hv'
    have ST := Lib.hid ((HST.out _ _ (by kernel_rfl) (by kernel_rfl)).call px bx HL.out)
    clear hv bx px HC HL HST HRA HPA hs
    go_wp2_with ((with_reducible refine at_store 7 6 ?_); refine wpList_store_cell rfl 24 (.tmp 7) (.tmp 6) rfl rfl (w.heap.size + 1) 0 (.int .u32 z0.1) rfl rfl rfl 32 _ ST.out.k3 (by rw [tyTx.arr]; omega) (by kernel_rfl) ?_; intro v1 ox bx; rw [TxA.set_exp] at bx; have ST' := Lib.hid (ST.out.set ox bx ⟨(ST.out.tl.only ox ST.out.k3).ins, (ST.out.tl.only ox ST.out.k3).outs, (ST.out.tl.only ox ST.out.k3).nulls, (ST.out.tl.only ox ST.out.k3).notes⟩); clear ST ox bx; have ST := ST'; clear ST')
    have hc := count_r r1 ST.out.len g _ ST.out.rb
    cases hq1 : numR r1 with
    | error er =>
      rw [hq1] at hc
      have HE := Lib.hid (show X = .error er by rw [← HX.out]; simp only [txR, mapR, thenR, manyR, HQ0.out, hq1])
      have PP := Lib.hid ST.out.past
      have HC := Lib.hid hc
      clear hq1 hc ST
      refine HC.out.mono ?_
      rintro e wx ⟨rfl, px⟩
      refine ⟨rfl, ?_⟩
      rw [HE.out]
      exact ⟨rfl, PP.out.trans px⟩
    | ok x =>
      obtain ⟨n1, r2⟩ := x
      rw [hq1] at hc
      have HQ1 := Lib.hid hq1
      have hl := rest_len good_num hq1 ST.out.len
      have hb := (good_num.bwd _ _ _ hq1).1
      have HC := Lib.hid hc
      have HL := Lib.hid hl
      have HB := Lib.hid hb
      clear hq1 hc hl hb
      refine HC.out.mono ?_
      rintro e w2 ⟨v, rfl, rfl, bx, px⟩
      have ST' := Lib.hid (ST.out.call px bx HL.out)
      clear ST bx px HC HL
      have ST := ST'
      clear ST'
      have N1 := Lib.hid HB.out
      clear HB
      go_wp2_with fail
      have hc := listPt_r n1 (by have := N1.out; omega) r2 ST.out.len g _ ST.out.rb
      cases hq2 : listR ptR n1 r2 with
      | error er =>
        rw [hq2] at hc
        have HE := Lib.hid (show X = .error er by rw [← HX.out]; simp only [txR, mapR, thenR, manyR, HQ0.out, HQ1.out, hq2])
        have PP := Lib.hid ST.out.past
        have HC := Lib.hid hc
        clear hq2 hc ST
        refine HC.out.mono ?_
        rintro e wx ⟨rfl, px⟩
        refine ⟨rfl, ?_⟩
        rw [HE.out]
        exact ⟨rfl, PP.out.trans px⟩
      | ok x =>
        obtain ⟨l1, r3⟩ := x
        rw [hq2] at hc
        have HQ2 := Lib.hid hq2
        have hl := rest_len (good_pt.list n1) hq2 ST.out.len
        have hb := ((good_pt.list n1).bwd _ _ _ hq2).1
        have HC := Lib.hid hc
        have HL := Lib.hid hl
        have HB := Lib.hid hb
        clear hq2 hc hl hb
        refine HC.out.mono ?_
        rintro e w3 ⟨v, rfl, hv, bx, px⟩
        obtain ⟨A1, rfl, lb⟩ := LB.mk hv
        have LB1 := Lib.hid lb
        clear hv lb
        have ST' := Lib.hid (ST.out.call px bx HL.out)
        clear ST bx px HC HL
        have ST := ST'
        clear ST'
        go_wp2_with ((with_reducible refine at_store 13 12 ?_); refine wpList_store_cell rfl 28 (.tmp 13) (.tmp 12) rfl rfl (w.heap.size + 1) 1 (.slice A1 l1.length l1.length) rfl rfl rfl 32 _ ST.out.k3 (by rw [tyTx.arr]; omega) (by kernel_rfl) ?_; intro v3 ox bx; rw [TxA.set_ins'] at bx; have ST' := Lib.hid (ST.out.set ox bx ⟨LB1.out.only ox ST.out.k3 (by decide), (ST.out.tl.only ox ST.out.k3).outs, (ST.out.tl.only ox ST.out.k3).nulls, (ST.out.tl.only ox ST.out.k3).notes⟩); clear ST ox bx; have ST := ST'; clear ST')
        have hc := count_r r3 ST.out.len g _ ST.out.rb
        cases hq3 : numR r3 with
        | error er =>
          rw [hq3] at hc
          have HE := Lib.hid (show X = .error er by rw [← HX.out]; simp only [txR, mapR, thenR, manyR, HQ0.out, HQ1.out, HQ2.out, hq3])
          have PP := Lib.hid ST.out.past
          have HC := Lib.hid hc
          clear hq3 hc ST
          refine HC.out.mono ?_
          rintro e wx ⟨rfl, px⟩
          refine ⟨rfl, ?_⟩
          rw [HE.out]
          exact ⟨rfl, PP.out.trans px⟩
        | ok x =>
          obtain ⟨n2, r4⟩ := x
          rw [hq3] at hc
          have HQ3 := Lib.hid hq3
          have hl := rest_len good_num hq3 ST.out.len
          have hb := (good_num.bwd _ _ _ hq3).1
          have HC := Lib.hid hc
          have HL := Lib.hid hl
          have HB := Lib.hid hb
          clear hq3 hc hl hb
          refine HC.out.mono ?_
          rintro e w4 ⟨v, rfl, rfl, bx, px⟩
          have ST' := Lib.hid (ST.out.call px bx HL.out)
          clear ST bx px HC HL
          have ST := ST'
          clear ST'
          have N2 := Lib.hid HB.out
          clear HB
          go_wp2_with fail
          have hc := listOut_r n2 (by have := N2.out; omega) r4 ST.out.len g _ ST.out.rb
          cases hq4 : listR outR n2 r4 with
          | error er =>
            rw [hq4] at hc
            have HE := Lib.hid (show X = .error er by rw [← HX.out]; simp only [txR, mapR, thenR, manyR, HQ0.out, HQ1.out, HQ2.out, HQ3.out, hq4])
            have PP := Lib.hid ST.out.past
            have HC := Lib.hid hc
            clear hq4 hc ST
            refine HC.out.mono ?_
            rintro e wx ⟨rfl, px⟩
            refine ⟨rfl, ?_⟩
            rw [HE.out]
            exact ⟨rfl, PP.out.trans px⟩
          | ok x =>
            obtain ⟨l2, r5⟩ := x
            rw [hq4] at hc
            have HQ4 := Lib.hid hq4
            have hl := rest_len (good_out.list n2) hq4 ST.out.len
            have hb := ((good_out.list n2).bwd _ _ _ hq4).1
            have HC := Lib.hid hc
            have HL := Lib.hid hl
            have HB := Lib.hid hb
            clear hq4 hc hl hb
            refine HC.out.mono ?_
            rintro e w5 ⟨v, rfl, hv, bx, px⟩
            obtain ⟨A2, rfl, lb⟩ := LB.mk hv
            have LB2 := Lib.hid lb
            clear hv lb
            have ST' := Lib.hid (ST.out.call px bx HL.out)
            clear ST bx px HC HL
            have ST := ST'
            clear ST'
            go_wp2_with ((with_reducible refine at_store 19 18 ?_); refine wpList_store_cell rfl 29 (.tmp 19) (.tmp 18) rfl rfl (w.heap.size + 1) 2 (.slice A2 l2.length l2.length) rfl rfl rfl 32 _ ST.out.k3 (by rw [tyTx.arr]; omega) (by kernel_rfl) ?_; intro v5 ox bx; rw [TxA.set_outs] at bx; have ST' := Lib.hid (ST.out.set ox bx ⟨(ST.out.tl.only ox ST.out.k3).ins, LB2.out.only ox ST.out.k3 (by decide), (ST.out.tl.only ox ST.out.k3).nulls, (ST.out.tl.only ox ST.out.k3).notes⟩); clear ST ox bx; have ST := ST'; clear ST')
            have hc := count_r r5 ST.out.len g _ ST.out.rb
            cases hq10 : numR r5 with
            | error er =>
              rw [hq10] at hc
              have HE := Lib.hid (show X = .error er by rw [← HX.out]; simp only [txR, mapR, thenR, manyR, nullR, HQ0.out, HQ1.out, HQ2.out, HQ3.out, HQ4.out, hq10])
              have PP := Lib.hid ST.out.past
              have HC := Lib.hid hc
              clear hq10 hc ST
              refine HC.out.mono ?_
              rintro e wx ⟨rfl, px⟩
              refine ⟨rfl, ?_⟩
              rw [HE.out]
              exact ⟨rfl, PP.out.trans px⟩
            | ok x =>
              obtain ⟨n3, r11⟩ := x
              rw [hq10] at hc
              have HQ10 := Lib.hid hq10
              have hl := rest_len good_num hq10 ST.out.len
              have hb := (good_num.bwd _ _ _ hq10).1
              have HC := Lib.hid hc
              have HL := Lib.hid hl
              have HB := Lib.hid hb
              clear hq10 hc hl hb
              refine HC.out.mono ?_
              rintro e w11 ⟨v, rfl, rfl, bx, px⟩
              have ST' := Lib.hid (ST.out.call px bx HL.out)
              clear ST bx px HC HL
              have ST := ST'
              clear ST'
              have N3 := Lib.hid HB.out
              clear HB
              by_cases h0 : n3 = 0
              · have N0 := Lib.hid h0
                have hd : decide (0 < n3) = false := by simp only [decide_eq_false_iff_not]; omega
                clear h0
                go_wp2_with fail
                have hc := listKey_r n3 (by have := N3.out; omega) r11 ST.out.len g _ ST.out.rb
                cases hq5 : listR keyR n3 r11 with
                | error er =>
                  rw [hq5] at hc
                  have HE := Lib.hid (show X = .error er by rw [← HX.out]; simp only [txR, mapR, thenR, manyR, nullR, ancR, if_pos N0.out, HQ0.out, HQ1.out, HQ2.out, HQ3.out, HQ4.out, HQ10.out, hq5])
                  have PP := Lib.hid ST.out.past
                  have HC := Lib.hid hc
                  clear hq5 hc ST
                  refine HC.out.mono ?_
                  rintro e wx ⟨rfl, px⟩
                  refine ⟨rfl, ?_⟩
                  rw [HE.out]
                  exact ⟨rfl, PP.out.trans px⟩
                | ok x =>
                  obtain ⟨l3, r6⟩ := x
                  rw [hq5] at hc
                  have HQ5 := Lib.hid hq5
                  have hl := rest_len (good_key.list n3) hq5 ST.out.len
                  have hb := ((good_key.list n3).bwd _ _ _ hq5).1
                  have HC := Lib.hid hc
                  have HL := Lib.hid hl
                  have HB := Lib.hid hb
                  clear hq5 hc hl hb
                  refine HC.out.mono ?_
                  rintro e w6 ⟨v, rfl, hv, bx, px⟩
                  obtain ⟨A3, rfl, lb⟩ := LB.mk hv
                  have LBB := Lib.hid lb
                  clear hv lb
                  have ST' := Lib.hid (ST.out.call px bx HL.out)
                  clear ST bx px HC HL
                  have ST := ST'
                  clear ST'
                  go_wp2_with ((with_reducible refine at_store 31 30 ?_); refine wpList_store_cell rfl 30 (.tmp 31) (.tmp 30) rfl rfl (w.heap.size + 1) 35 (.slice A3 l3.length l3.length) rfl rfl rfl 32 _ ST.out.k3 (by rw [tyTx.arr]; omega) (by kernel_rfl) ?_; intro v6 ox bx; rw [TxA.set_nulls] at bx; have ST' := Lib.hid (ST.out.set ox bx ⟨(ST.out.tl.only ox ST.out.k3).ins, (ST.out.tl.only ox ST.out.k3).outs, LBB.out.only ox ST.out.k3 (by decide), (ST.out.tl.only ox ST.out.k3).notes⟩); clear ST ox bx; have ST := ST'; clear ST')
                  have hc := count_r r6 ST.out.len g _ ST.out.rb
                  cases hq6 : numR r6 with
                  | error er =>
                    rw [hq6] at hc
                    have HE := Lib.hid (show X = .error er by rw [← HX.out]; simp only [txR, mapR, thenR, manyR, nullR, ancR, if_pos N0.out, HQ0.out, HQ1.out, HQ2.out, HQ3.out, HQ4.out, HQ10.out, HQ5.out, hq6])
                    have PP := Lib.hid ST.out.past
                    have HC := Lib.hid hc
                    clear hq6 hc ST
                    refine HC.out.mono ?_
                    rintro e wx ⟨rfl, px⟩
                    refine ⟨rfl, ?_⟩
                    rw [HE.out]
                    exact ⟨rfl, PP.out.trans px⟩
                  | ok x =>
                    obtain ⟨n4, r7⟩ := x
                    rw [hq6] at hc
                    have HQ6 := Lib.hid hq6
                    have hl := rest_len good_num hq6 ST.out.len
                    have hb := (good_num.bwd _ _ _ hq6).1
                    have HC := Lib.hid hc
                    have HL := Lib.hid hl
                    have HB := Lib.hid hb
                    clear hq6 hc hl hb
                    refine HC.out.mono ?_
                    rintro e w7 ⟨v, rfl, rfl, bx, px⟩
                    have ST' := Lib.hid (ST.out.call px bx HL.out)
                    clear ST bx px HC HL
                    have ST := ST'
                    clear ST'
                    have N4 := Lib.hid HB.out
                    clear HB
                    go_wp2_with fail
                    have hc := listKey_r n4 (by have := N4.out; omega) r7 ST.out.len g _ ST.out.rb
                    cases hq7 : listR keyR n4 r7 with
                    | error er =>
                      rw [hq7] at hc
                      have HE := Lib.hid (show X = .error er by rw [← HX.out]; simp only [txR, mapR, thenR, manyR, nullR, ancR, if_pos N0.out, HQ0.out, HQ1.out, HQ2.out, HQ3.out, HQ4.out, HQ10.out, HQ5.out, HQ6.out, hq7])
                      have PP := Lib.hid ST.out.past
                      have HC := Lib.hid hc
                      clear hq7 hc ST
                      refine HC.out.mono ?_
                      rintro e wx ⟨rfl, px⟩
                      refine ⟨rfl, ?_⟩
                      rw [HE.out]
                      exact ⟨rfl, PP.out.trans px⟩
                    | ok x =>
                      obtain ⟨l4, r8⟩ := x
                      rw [hq7] at hc
                      have HQ7 := Lib.hid hq7
                      have hl := rest_len (good_key.list n4) hq7 ST.out.len
                      have hb := ((good_key.list n4).bwd _ _ _ hq7).1
                      have HC := Lib.hid hc
                      have HL := Lib.hid hl
                      have HB := Lib.hid hb
                      clear hq7 hc hl hb
                      refine HC.out.mono ?_
                      rintro e w8 ⟨v, rfl, hv, bx, px⟩
                      obtain ⟨A4, rfl, lb⟩ := LB.mk hv
                      have LBC := Lib.hid lb
                      clear hv lb
                      have ST' := Lib.hid (ST.out.call px bx HL.out)
                      clear ST bx px HC HL
                      have ST := ST'
                      clear ST'
                      go_wp2_with ((with_reducible refine at_store 37 36 ?_); refine wpList_store_cell rfl 30 (.tmp 37) (.tmp 36) rfl rfl (w.heap.size + 1) 36 (.slice A4 l4.length l4.length) rfl rfl rfl 32 _ ST.out.k3 (by rw [tyTx.arr]; omega) (by kernel_rfl) ?_; intro v8 ox bx; rw [TxA.set_notes] at bx; have ST' := Lib.hid (ST.out.set ox bx ⟨(ST.out.tl.only ox ST.out.k3).ins, (ST.out.tl.only ox ST.out.k3).outs, (ST.out.tl.only ox ST.out.k3).nulls, LBC.out.only ox ST.out.k3 (by decide)⟩); clear ST ox bx; have ST := ST'; clear ST')
                      have hc := i64_r r8 ST.out.len g _ ST.out.rb
                      cases hq8 : i64R r8 with
                      | error er =>
                        rw [hq8] at hc
                        have HE := Lib.hid (show X = .error er by rw [← HX.out]; simp only [txR, mapR, thenR, manyR, nullR, ancR, if_pos N0.out, HQ0.out, HQ1.out, HQ2.out, HQ3.out, HQ4.out, HQ10.out, HQ5.out, HQ6.out, HQ7.out, hq8])
                        have PP := Lib.hid ST.out.past
                        have HC := Lib.hid hc
                        clear hq8 hc ST
                        refine HC.out.mono ?_
                        rintro e wx ⟨rfl, px⟩
                        refine ⟨rfl, ?_⟩
                        rw [HE.out]
                        exact ⟨rfl, PP.out.trans px⟩
                      | ok x =>
                        obtain ⟨zb, r9⟩ := x
                        rw [hq8] at hc
                        have HQ8 := Lib.hid hq8
                        have hl := rest_len good_i64 hq8 ST.out.len
                        have hb := (good_i64.bwd _ _ _ hq8).1
                        have HC := Lib.hid hc
                        have HL := Lib.hid hl
                        have HB := Lib.hid hb
                        clear hq8 hc hl hb
                        refine HC.out.mono ?_
                        rintro e w9 ⟨v, rfl, hv, bx, px⟩
                        have hv' : v = .int .i64 zb.1 := hv
                        subst hv'
                        clear hv
                        have ST' := Lib.hid (ST.out.call px bx HL.out)
                        clear ST bx px HC HL
                        have ST := ST'
                        clear ST'
                        have HE := Lib.hid (show X = .ok (⟨z0, l1, l2, zeroKey, l3, l4, zb⟩, r9) by rw [← HX.out]; simp only [txR, mapR, thenR, manyR, nullR, ancR, if_pos N0.out, HQ0.out, HQ1.out, HQ2.out, HQ3.out, HQ4.out, HQ10.out, HQ5.out, HQ6.out, HQ7.out, HQ8.out]; rfl)
                        go_wp2_with (first
                          | ((with_reducible refine at_store 40 39 ?_); refine wpList_store_cell rfl 2 (.tmp 40) (.tmp 39) rfl rfl (w.heap.size + 1) 37 (.int .i64 zb.1) rfl rfl rfl 32 _ ST.out.k3 (by rw [tyTx.arr]; omega) (by kernel_rfl) ?_; intro v9 ox bx; rw [TxA.set_bal] at bx; have ST' := Lib.hid (ST.out.set ox bx ⟨(ST.out.tl.only ox ST.out.k3).ins, (ST.out.tl.only ox ST.out.k3).outs, (ST.out.tl.only ox ST.out.k3).nulls, (ST.out.tl.only ox ST.out.k3).notes⟩); clear ST ox bx; have ST := ST'; clear ST')
                          | ((with_reducible refine at_load 3 ?_); refine tyTx.wpList_load rfl (.tmp 3) rfl (w.heap.size + 1) 0 rfl _ (by simpa using RowC.of_blk ST.out.k3) ?_)
                          | ((with_reducible refine at_store 2 41 ?_); obtain ⟨cz, hcz, kcz⟩ := ST.out.k2; refine tyTx.wpList_store rfl (.tmp 2) (.tmp 41) rfl rfl w.heap.size _ rfl rfl 32 _ kcz hcz ?_; intro v10 ox bx))
                        have hrb := ox.blk ST.out.rb (by have := ST.out.rb.ne_ kcz (by decide); simpa using this)
                        have htl := ST.out.tl.only ox kcz
                        have hpp := ST.out.past.new ox ST.out.new2
                        refine bodyPost_ret (results_cell_row rfl _ _ w.heap.size 32 _ (0, 0) _ rfl bx Tryd.underlying32 rfl (by rw [tyTx.arr]; kernel_rfl)) rfl ?_
                        rw [HE.out]
                        exact ⟨_, rfl, ⟨_, rfl, rfl, htl⟩, hrb, hpp⟩
              · have N0 := Lib.hid h0
                have hd : decide (0 < n3) = true := by simp only [decide_eq_true_iff]; omega
                clear h0
                go_wp2_with fail
                have hc := key_r r11 ST.out.len g _ ST.out.rb
                cases hq11 : keyR r11 with
                | error er =>
                  rw [hq11] at hc
                  have HE := Lib.hid (show X = .error er by rw [← HX.out]; simp only [txR, mapR, thenR, manyR, nullR, ancR, if_neg N0.out, HQ0.out, HQ1.out, HQ2.out, HQ3.out, HQ4.out, HQ10.out, hq11])
                  have PP := Lib.hid ST.out.past
                  have HC := Lib.hid hc
                  clear hq11 hc ST
                  refine HC.out.mono ?_
                  rintro e wx ⟨rfl, px⟩
                  refine ⟨rfl, ?_⟩
                  rw [HE.out]
                  exact ⟨rfl, PP.out.trans px⟩
                | ok x =>
                  obtain ⟨k3, r12⟩ := x
                  rw [hq11] at hc
                  have HQ11 := Lib.hid hq11
                  have hl := rest_len good_key hq11 ST.out.len
                  have hb := (good_key.bwd _ _ _ hq11).1
                  have HC := Lib.hid hc
                  have HL := Lib.hid hl
                  have HB := Lib.hid hb
                  clear hq11 hc hl hb
                  refine HC.out.mono ?_
                  rintro e w12 ⟨v, rfl, hv, bx, px⟩
                  have hv' : v = .agg (encK k3).toArray := hv
                  subst hv'
                  clear hv
                  have ST' := Lib.hid (ST.out.call px bx HL.out)
                  clear ST bx px HC HL
                  have ST := ST'
                  clear ST'
                  go_wp2_with ((with_reducible refine at_store 26 25 ?_); refine tyKc.wpList_storeAt rfl (.tmp 26) (.tmp 25) rfl rfl (w.heap.size + 1) 3 k3 rfl rfl 32 _ ST.out.k3 (by rw [TxA.len]; omega) ?_; intro v12 ox bx; rw [TxA.set_anchor] at bx; have ST' := Lib.hid (ST.out.set ox bx ⟨(ST.out.tl.only ox ST.out.k3).ins, (ST.out.tl.only ox ST.out.k3).outs, (ST.out.tl.only ox ST.out.k3).nulls, (ST.out.tl.only ox ST.out.k3).notes⟩); clear ST ox bx; have ST := ST'; clear ST')
                  have hc := listKey_r n3 (by have := N3.out; omega) r12 ST.out.len g _ ST.out.rb
                  cases hq5 : listR keyR n3 r12 with
                  | error er =>
                    rw [hq5] at hc
                    have HE := Lib.hid (show X = .error er by rw [← HX.out]; simp only [txR, mapR, thenR, manyR, nullR, ancR, if_neg N0.out, HQ0.out, HQ1.out, HQ2.out, HQ3.out, HQ4.out, HQ10.out, HQ11.out, hq5])
                    have PP := Lib.hid ST.out.past
                    have HC := Lib.hid hc
                    clear hq5 hc ST
                    refine HC.out.mono ?_
                    rintro e wx ⟨rfl, px⟩
                    refine ⟨rfl, ?_⟩
                    rw [HE.out]
                    exact ⟨rfl, PP.out.trans px⟩
                  | ok x =>
                    obtain ⟨l3, r6⟩ := x
                    rw [hq5] at hc
                    have HQ5 := Lib.hid hq5
                    have hl := rest_len (good_key.list n3) hq5 ST.out.len
                    have hb := ((good_key.list n3).bwd _ _ _ hq5).1
                    have HC := Lib.hid hc
                    have HL := Lib.hid hl
                    have HB := Lib.hid hb
                    clear hq5 hc hl hb
                    refine HC.out.mono ?_
                    rintro e w6 ⟨v, rfl, hv, bx, px⟩
                    obtain ⟨A3, rfl, lb⟩ := LB.mk hv
                    have LBB := Lib.hid lb
                    clear hv lb
                    have ST' := Lib.hid (ST.out.call px bx HL.out)
                    clear ST bx px HC HL
                    have ST := ST'
                    clear ST'
                    go_wp2_with ((with_reducible refine at_store 31 30 ?_); refine wpList_store_cell rfl 30 (.tmp 31) (.tmp 30) rfl rfl (w.heap.size + 1) 35 (.slice A3 l3.length l3.length) rfl rfl rfl 32 _ ST.out.k3 (by rw [tyTx.arr]; omega) (by kernel_rfl) ?_; intro v6 ox bx; rw [TxA.set_nulls] at bx; have ST' := Lib.hid (ST.out.set ox bx ⟨(ST.out.tl.only ox ST.out.k3).ins, (ST.out.tl.only ox ST.out.k3).outs, LBB.out.only ox ST.out.k3 (by decide), (ST.out.tl.only ox ST.out.k3).notes⟩); clear ST ox bx; have ST := ST'; clear ST')
                    have hc := count_r r6 ST.out.len g _ ST.out.rb
                    cases hq6 : numR r6 with
                    | error er =>
                      rw [hq6] at hc
                      have HE := Lib.hid (show X = .error er by rw [← HX.out]; simp only [txR, mapR, thenR, manyR, nullR, ancR, if_neg N0.out, HQ0.out, HQ1.out, HQ2.out, HQ3.out, HQ4.out, HQ10.out, HQ11.out, HQ5.out, hq6])
                      have PP := Lib.hid ST.out.past
                      have HC := Lib.hid hc
                      clear hq6 hc ST
                      refine HC.out.mono ?_
                      rintro e wx ⟨rfl, px⟩
                      refine ⟨rfl, ?_⟩
                      rw [HE.out]
                      exact ⟨rfl, PP.out.trans px⟩
                    | ok x =>
                      obtain ⟨n4, r7⟩ := x
                      rw [hq6] at hc
                      have HQ6 := Lib.hid hq6
                      have hl := rest_len good_num hq6 ST.out.len
                      have hb := (good_num.bwd _ _ _ hq6).1
                      have HC := Lib.hid hc
                      have HL := Lib.hid hl
                      have HB := Lib.hid hb
                      clear hq6 hc hl hb
                      refine HC.out.mono ?_
                      rintro e w7 ⟨v, rfl, rfl, bx, px⟩
                      have ST' := Lib.hid (ST.out.call px bx HL.out)
                      clear ST bx px HC HL
                      have ST := ST'
                      clear ST'
                      have N4 := Lib.hid HB.out
                      clear HB
                      go_wp2_with fail
                      have hc := listKey_r n4 (by have := N4.out; omega) r7 ST.out.len g _ ST.out.rb
                      cases hq7 : listR keyR n4 r7 with
                      | error er =>
                        rw [hq7] at hc
                        have HE := Lib.hid (show X = .error er by rw [← HX.out]; simp only [txR, mapR, thenR, manyR, nullR, ancR, if_neg N0.out, HQ0.out, HQ1.out, HQ2.out, HQ3.out, HQ4.out, HQ10.out, HQ11.out, HQ5.out, HQ6.out, hq7])
                        have PP := Lib.hid ST.out.past
                        have HC := Lib.hid hc
                        clear hq7 hc ST
                        refine HC.out.mono ?_
                        rintro e wx ⟨rfl, px⟩
                        refine ⟨rfl, ?_⟩
                        rw [HE.out]
                        exact ⟨rfl, PP.out.trans px⟩
                      | ok x =>
                        obtain ⟨l4, r8⟩ := x
                        rw [hq7] at hc
                        have HQ7 := Lib.hid hq7
                        have hl := rest_len (good_key.list n4) hq7 ST.out.len
                        have hb := ((good_key.list n4).bwd _ _ _ hq7).1
                        have HC := Lib.hid hc
                        have HL := Lib.hid hl
                        have HB := Lib.hid hb
                        clear hq7 hc hl hb
                        refine HC.out.mono ?_
                        rintro e w8 ⟨v, rfl, hv, bx, px⟩
                        obtain ⟨A4, rfl, lb⟩ := LB.mk hv
                        have LBC := Lib.hid lb
                        clear hv lb
                        have ST' := Lib.hid (ST.out.call px bx HL.out)
                        clear ST bx px HC HL
                        have ST := ST'
                        clear ST'
                        go_wp2_with ((with_reducible refine at_store 37 36 ?_); refine wpList_store_cell rfl 30 (.tmp 37) (.tmp 36) rfl rfl (w.heap.size + 1) 36 (.slice A4 l4.length l4.length) rfl rfl rfl 32 _ ST.out.k3 (by rw [tyTx.arr]; omega) (by kernel_rfl) ?_; intro v8 ox bx; rw [TxA.set_notes] at bx; have ST' := Lib.hid (ST.out.set ox bx ⟨(ST.out.tl.only ox ST.out.k3).ins, (ST.out.tl.only ox ST.out.k3).outs, (ST.out.tl.only ox ST.out.k3).nulls, LBC.out.only ox ST.out.k3 (by decide)⟩); clear ST ox bx; have ST := ST'; clear ST')
                        have hc := i64_r r8 ST.out.len g _ ST.out.rb
                        cases hq8 : i64R r8 with
                        | error er =>
                          rw [hq8] at hc
                          have HE := Lib.hid (show X = .error er by rw [← HX.out]; simp only [txR, mapR, thenR, manyR, nullR, ancR, if_neg N0.out, HQ0.out, HQ1.out, HQ2.out, HQ3.out, HQ4.out, HQ10.out, HQ11.out, HQ5.out, HQ6.out, HQ7.out, hq8])
                          have PP := Lib.hid ST.out.past
                          have HC := Lib.hid hc
                          clear hq8 hc ST
                          refine HC.out.mono ?_
                          rintro e wx ⟨rfl, px⟩
                          refine ⟨rfl, ?_⟩
                          rw [HE.out]
                          exact ⟨rfl, PP.out.trans px⟩
                        | ok x =>
                          obtain ⟨zb, r9⟩ := x
                          rw [hq8] at hc
                          have HQ8 := Lib.hid hq8
                          have hl := rest_len good_i64 hq8 ST.out.len
                          have hb := (good_i64.bwd _ _ _ hq8).1
                          have HC := Lib.hid hc
                          have HL := Lib.hid hl
                          have HB := Lib.hid hb
                          clear hq8 hc hl hb
                          refine HC.out.mono ?_
                          rintro e w9 ⟨v, rfl, hv, bx, px⟩
                          have hv' : v = .int .i64 zb.1 := hv
                          subst hv'
                          clear hv
                          have ST' := Lib.hid (ST.out.call px bx HL.out)
                          clear ST bx px HC HL
                          have ST := ST'
                          clear ST'
                          have HE := Lib.hid (show X = .ok (⟨z0, l1, l2, k3, l3, l4, zb⟩, r9) by rw [← HX.out]; simp only [txR, mapR, thenR, manyR, nullR, ancR, if_neg N0.out, HQ0.out, HQ1.out, HQ2.out, HQ3.out, HQ4.out, HQ10.out, HQ11.out, HQ5.out, HQ6.out, HQ7.out, HQ8.out]; rfl)
                          go_wp2_with (first
                            | ((with_reducible refine at_store 40 39 ?_); refine wpList_store_cell rfl 2 (.tmp 40) (.tmp 39) rfl rfl (w.heap.size + 1) 37 (.int .i64 zb.1) rfl rfl rfl 32 _ ST.out.k3 (by rw [tyTx.arr]; omega) (by kernel_rfl) ?_; intro v9 ox bx; rw [TxA.set_bal] at bx; have ST' := Lib.hid (ST.out.set ox bx ⟨(ST.out.tl.only ox ST.out.k3).ins, (ST.out.tl.only ox ST.out.k3).outs, (ST.out.tl.only ox ST.out.k3).nulls, (ST.out.tl.only ox ST.out.k3).notes⟩); clear ST ox bx; have ST := ST'; clear ST')
                            | ((with_reducible refine at_load 3 ?_); refine tyTx.wpList_load rfl (.tmp 3) rfl (w.heap.size + 1) 0 rfl _ (by simpa using RowC.of_blk ST.out.k3) ?_)
                            | ((with_reducible refine at_store 2 41 ?_); obtain ⟨cz, hcz, kcz⟩ := ST.out.k2; refine tyTx.wpList_store rfl (.tmp 2) (.tmp 41) rfl rfl w.heap.size _ rfl rfl 32 _ kcz hcz ?_; intro v10 ox bx))
                          have hrb := ox.blk ST.out.rb (by have := ST.out.rb.ne_ kcz (by decide); simpa using this)
                          have htl := ST.out.tl.only ox kcz
                          have hpp := ST.out.past.new ox ST.out.new2
                          refine bodyPost_ret (results_cell_row rfl _ _ w.heap.size 32 _ (0, 0) _ rfl bx Tryd.underlying32 rfl (by rw [tyTx.arr]; kernel_rfl)) rfl ?_
                          rw [HE.out]
                          exact ⟨_, rfl, ⟨_, rfl, rfl, htl⟩, hrb, hpp⟩
end Go.Proofs.YthpnmmilioonhaaDoor
/- tx's reader: try, which recovers; Read, Decode. -/
namespace Go.Proofs.YthpnmmilioonhaaDoor
open Go.RowKit
theorem TL.onlyT {w w' : World} {g : Nat} {a : TxA} (h : TL w a) {t : TypeId} {cs : Array Value} (ho : Only [g] w w') (hg : Blk w g t cs) (h1 : 88 ≠ t) (h2 : 90 ≠ t) (h3 : 23 ≠ t) : TL w' a :=
  ⟨h.ins.only ho hg h1, h.outs.only ho hg h2, h.nulls.only ho hg h3, h.notes.only ho hg h3⟩
def panE (er : Int) : List PanicEntry := [{ v := .iface 35 (.int .i64 er), recovered := false }]
theorem tas_errno (v : Value) (w : World) : (Instr.typeAssert (.iface 35 v) 20 35 false).run Tryd.prog w = .ok v w := by kernel_rfl
theorem tcatch_idle (p q : Addr) (w : World) :
    CallsD Tryd.prog 100 #[.pointer (some p), .pointer (some q)] .returning w fun e u' w' => e = .returned (.tuple #[]) ∧ u' = .returning ∧ w' = w := by
  refine callsD_of_wpS Tryd.func100 rfl fun c₀ cs hu => ?_
  apply wpS_seq
  apply wpS_region
  simp [wpOpsS, go_sem, recoverD, hu, Tryd.ntmps100, Exit.thenS]
  apply wpS_seq
  apply wpS_region
  simp [wpOpsS, go_sem, Exit.thenS]
  refine wpS_cond (t := false) (by simp [Act.eval, Array.replicate]) ?_
  simp only [Bool.false_eq_true, if_false]
  refine wpS_of_wp (wp_skip ?_)
  cases c₀
  simp_all [bodyPostS, results, Tryd.results100]
set_option maxRecDepth 20000 in
theorem tcatch_panicking (p q : Nat) (er : Int) (w : World) (cs : Array Value) (hcs : cs.size = 38) (hp : Blk w p 32 cs) (hq : Blk w q 35 #[.int .i64 0]) (hpq : p ≠ q) :
    CallsD Tryd.prog 100 #[.pointer (some ⟨p, 0, none⟩), .pointer (some ⟨q, 0, none⟩)] (.panicking (panE er)) w fun e u' w' =>
      e = .returned (.tuple #[]) ∧ u' = .panicking [{ v := .iface 35 (.int .i64 er), recovered := true }] ∧ Only [p, q] w w' ∧ Blk w' p 32 aZ.cells.toArray ∧ Blk w' q 35 #[.int .i64 er] := by
  have HP := Lib.hid hp
  have HQ := Lib.hid hq
  clear hp hq
  refine callsD_of_wpS Tryd.func100 rfl fun c₀ cs hu => ?_
  apply wpS_seq
  apply wpS_region
  simp [wpOpsS, go_sem, recoverD, hu, panE, Tryd.ntmps100, Exit.thenS]
  apply wpS_seq
  apply wpS_region
  simp [wpOpsS, go_sem, Exit.thenS]
  refine wpS_cond (t := true) (by simp [Act.eval, Array.replicate]) ?_
  simp only [if_true]
  refine wpS_of_wp ?_
  have has := tas_errno
  simp only [Array.replicate, List.replicate, List.append_toArray, List.cons_append, List.nil_append, List.setIfInBounds_toArray, List.set_cons_succ, List.set_cons_zero]
  refine wp_region_held_drew (S := fun w' => Only [p, q] w w' ∧ (∃ cs : Array Value, cs.size = 38 ∧ Blk w' p 32 cs) ∧ ∃ v, Blk w' q 35 #[v]) (by kernel_rfl) ⟨(Only.refl _ _).drew, ⟨_, hcs, HP.out.drew⟩, ⟨_, HQ.out.drew⟩⟩ ?_
  intro hS0
  refine wpAnyH_take (i := 0) (v := .agg aZ.cells.toArray) rfl (by kernel_rfl) (by kernel_rfl) (by kernel_rfl) (fun _ _ _ h => h) (yieldsIf_build (by rfl) 32 #[] rfl aZ.cells.toArray (by kernel_rfl)) hS0 ?_
  simp only [Act.put, List.getElem_toArray, List.getElem_cons_zero, List.setIfInBounds_toArray, List.set_cons_succ, List.set_cons_zero]
  refine wpAnyH_take (i := 1) (v := .iface 35 (.int .i64 er)) rfl (by kernel_rfl) (by kernel_rfl) (by kernel_rfl) (fun _ _ _ h => h) (Or.inl ⟨by rfl, fun W _ => by go_simp; try with_reducible rfl⟩) hS0 ?_
  simp only [Act.put, List.getElem_toArray, List.getElem_cons_zero, List.getElem_cons_succ, List.setIfInBounds_toArray, List.set_cons_succ, List.set_cons_zero]
  refine wpAnyH_take (i := 2) (v := .int .i64 er) rfl (by kernel_rfl) (by kernel_rfl) (by kernel_rfl) (fun _ _ _ h => h) (Or.inl ⟨by rfl, fun W _ => by go_simp; try with_reducible rfl⟩) hS0 ?_
  simp only [Act.put, List.getElem_toArray, List.getElem_cons_zero, List.getElem_cons_succ, List.setIfInBounds_toArray, List.set_cons_succ, List.set_cons_zero]
  obtain ⟨c1, h1, k1⟩ := hS0.2.1
  obtain ⟨v1, k2⟩ := hS0.2.2
  refine wpAnyH_ready (rs := [3]) (by kernel_rfl) (by simp) ?_
  refine AllReadyH.cons rfl (fun Kq hK => ?_) AllReadyH.nil
  refine step_store_arr rfl 32 (.tmp 0) (.tmp 6) rfl rfl p aZ.cells.toArray rfl rfl 32 _ k1 (by rw [tyTx.arr]; kernel_rfl) (by rw [tyTx.arr, h1]) (by rw [List.all_toArray, List.all_eq_true]; exact tyTx.one _) ?_
  intro w2 o2 b2
  have k2' := o2.blk k2 (by simpa using fun e => hpq e.symm)
  refine hK.out _ _ ⟨hS0.1.trans (o2.mono (by simp)), ⟨_, tyTx.arr _, b2⟩, ⟨_, k2'⟩⟩ (fun hS1 => ?_)
  clear hK Kq
  have kc := k2'.cell 0
  have kz := k2'.frozen 0
  refine wpAnyH_ready (rs := [4]) (by kernel_rfl) (by simp) ?_
  refine AllReadyH.cons rfl (fun Kq hK => ?_) AllReadyH.nil
  go_simp
  have o3 : Only [q] w2 (w2.setCell ⟨q, 0, none⟩ (.int .i64 er)) := (Only.refl _ _).setCell (by simp) _
  have b3 := k2'.set_ 0 (.int .i64 er)
  refine hK.out _ _ ⟨hS1.1.trans (o3.mono (by simp)), ⟨_, tyTx.arr _, o3.blk b2 (by simpa using hpq)⟩, ⟨_, b3⟩⟩ (fun hS2 => ?_)
  clear hK Kq
  refine wpAnyH_done (by kernel_rfl) ?_ _
  have f1 := hS2.1
  have f2 := o3.blk b2 (by simpa using hpq)
  have f3 : Blk (w2.setCell ⟨q, 0, none⟩ (.int .i64 er)) q 35 #[.int .i64 er] := b3
  simp [bodyPostS, results, Tryd.results100]
  exact ⟨f1, f2, f3⟩
theorem enter_try (caps : Array Value) (W : World) : (callFunc 100 caps).run Tryd.prog W = .ok (.enter 100 caps) W := by simp [go_sem]
theorem loadTx (a : TxA) {w : World} {g : Nat} (h : Blk w g 32 a.cells.toArray) : (loadVar 32 ⟨g, 0, none⟩).run Tryd.prog w = .ok (.agg a.cells.toArray) w := tyTx.load w g 0 a (by simpa using RowC.of_blk h)
theorem loadErr {w : World} {g : Nat} {v : Value} (h : Blk w g 35 #[v]) : (loadVar 35 ⟨g, 0, none⟩).run Tryd.prog w = .ok v w := run_loadVar_one Tryd.isAgg35 ((h.cell 0).trans rfl)
theorem at_storeK {P : Program} {ops : Array Oper} {rest : List Oper} {a : Act} {w : World} {Q : Exit → Act → World → Prop} {ty ty0 : TypeId} {v : Value} {pos : String} {after : Array Edge} (i : Nat)
    (h : wpList P ops Q ({ dst := none, op := .store ty (.tmp i) (.const v), type := ty0, pos := pos, after := after, guard := none } :: rest) a w) :
    wpList P ops Q ({ dst := none, op := .store ty (.tmp i) (.const v), type := ty0, pos := pos, after := after, guard := none } :: rest) a w := h
theorem results_cells2 {P : Program} {fn : Func} {p q : Tmp} {t1 t2 : TypeId} (h : fn.results = #[.cell p t1, .cell q t2]) (tmps : Array Value) (w : World) (a b : Addr) {x y : Value} (hp : tmps.getD p undef = .pointer (some a)) (hq : tmps.getD q undef = .pointer (some b))
    (hx : (loadVar t1 a).run P w = .ok x w) (hy : (loadVar t2 b).run P w = .ok y w) : (results fn tmps).run P w = .ok (.tuple #[x, y]) w := by
  have hp' : tmps[p]?.getD undef = .pointer (some a) := by simpa using hp
  have hq' : tmps[q]?.getD undef = .pointer (some b) := by simpa using hq
  simp [results, h, hp', hq', asAddr, hx, hy]
/-- how try answers -/
def EndT (g : Nat) (w : World) (x : Except Int (TxV × List UInt8)) (e : Ending) (w' : World) : Prop :=
  match x with
  | .ok (T, r) => ∃ a : TxA, a.T = T ∧ e = .returned (.tuple #[.agg a.cells.toArray, .int .i64 0]) ∧ TL w' a ∧ Rb w' g r ∧ Past g w w'
  | .error er => e = .returned (.tuple #[.agg aZ.cells.toArray, .int .i64 er]) ∧ Past g w w'
set_option maxRecDepth 20000 in
theorem try_r (l : List UInt8) (hs : l.length ≤ 1000000) (g : Nat) (w : World) (hr : Rb w g l) :
    Calls Tryd.prog 88 #[.pointer (some ⟨g, 0, none⟩)] w (EndT g w (txR l)) := by
  have hmf : ∀ (fn : Fn) (first cap : Array Value) (w : World), (Instr.makeFunc fn first cap).run Tryd.prog w = .ok (.func fn first cap) w := fun _ _ _ _ => rfl
  have hc := tx_r l hs g
  have hlg : g < w.heap.size := hr.lt
  have HRA := Lib.hid (fun c2 c3 => (show Rb ((w.alloc (.cells c2 32)).alloc (.cells c3 35)) g l from (hr.alloc _).alloc _))
  have HPA := Lib.hid (fun c2 c3 => (show Past g w ((w.alloc (.cells c2 32)).alloc (.cells c3 35)) from Past.of_below (((Below.refl _ _).alloc (Nat.le_refl _) _).alloc (by simp) _)))
  clear hr
  cases hq : txR l with
  | error er =>
    rw [hq] at hc
    have HC := Lib.hid hc
    clear hq hc
    go_enter_defers Tryd.func88, Tryd.ntmps88
    go_wp2_with fail
    refine (HC.out _ (HRA.out _ _)).mono ?_
    rintro e w1 ⟨rfl, px⟩
    have k2 := px.blk ((Blk.new w 32 _).alloc _) (by omega)
    have k3 := px.blk (blk_new (g := w.heap.size + 1) 35 _ (by simp)) (by omega)
    have pp := (HPA.out _ _).trans px
    refine leaves_cons (f := 100) (args := #[.pointer (some ⟨w.heap.size, 0, none⟩), .pointer (some ⟨w.heap.size + 1, 0, none⟩)]) (by simp) (by simp [go_sem]) ?_
    refine (tcatch_panicking w.heap.size (w.heap.size + 1) er _ _ rfl k2 k3 (by omega)).mono ?_
    rintro e u' w2 ⟨rfl, rfl, o2, b2, b3⟩
    have l2 := loadTx aZ b2
    have l3 := loadErr b3
    have pf : Past g w w2 := ⟨o2.os.trans pp.os, o2.tape.trans pp.tape, o2.output.trans pp.output, Nat.le_trans pp.size (Nat.le_of_eq o2.size.symm), fun i hi hg => (o2.block i (by simp; omega)).trans (pp.block i hi hg)⟩
    clear b2 b3 o2 k2 k3
    exact ⟨_, results_cells2 rfl _ _ _ _ rfl rfl l2 l3, rfl, pf⟩
  | ok x =>
    obtain ⟨T, r⟩ := x
    rw [hq] at hc
    have HC := Lib.hid hc
    clear hq hc
    go_enter_defers Tryd.func88, Tryd.ntmps88
    go_wp2_with fail
    refine (HC.out _ (HRA.out _ _)).mono ?_
    rintro e w1 ⟨v, rfl, ⟨a, rfl, rfl, ain⟩, bx, px⟩
    have k2 := px.blk ((Blk.new w 32 _).alloc _) (by omega)
    have k3 := px.blk (blk_new (g := w.heap.size + 1) 35 _ (by simp)) (by omega)
    have pp := (HPA.out _ _).trans px
    have K2 := Lib.hid k2
    have K3 := Lib.hid k3
    have PP := Lib.hid pp
    have BX := Lib.hid bx
    have AIN := Lib.hid ain
    have l1 : w.heap.size + 1 < w1.heap.size := k3.lt
    have z3 := k3.frozen 0
    have c3 := k3.cell 0
    clear k2 k3 pp bx ain px HRA HPA HC
    go_wp2_with (first
      | ((with_reducible refine at_store 2 6 ?_); refine tyTx.wpList_store rfl (.tmp 2) (.tmp 6) rfl rfl w.heap.size a rfl rfl 32 _ K2.out rfl ?_; intro w2 o2 b2)
      | ((with_reducible refine at_storeK 3 ?_); refine wpList_store_blk rfl 35 (.tmp 3) (.const (.int .i64 0)) rfl rfl (w.heap.size + 1) (.int .i64 0) rfl rfl rfl 35 _ (o2.blk K3.out (by simp)) (by kernel_rfl) ?_; intro w3 o3 b3))
    refine leaves_cons (f := 100) (args := #[.pointer (some ⟨w.heap.size, 0, none⟩), .pointer (some ⟨w.heap.size + 1, 0, none⟩)]) (by simp) (by simp [go_sem]) ?_
    refine (tcatch_idle ⟨w.heap.size, 0, none⟩ ⟨w.heap.size + 1, 0, none⟩ _).mono ?_
    rintro e u' w4 ⟨rfl, rfl, rfl⟩
    have l2 := loadTx a (o3.blk b2 (by simp))
    have l3 := loadErr b3
    have pf : Past g w w4 := (PP.out.new o2 (Nat.le_refl _)).new o3 (by omega)
    exact ⟨_, results_cells2 rfl _ _ _ _ rfl rfl l2 l3, a, rfl, rfl, (AIN.out.only o2 K2.out).onlyT o3 (o2.blk K3.out (by simp)) (by decide) (by decide) (by decide), o3.blk (o2.blk BX.out (by simp; omega)) (by simp; omega), pf⟩
end Go.Proofs.YthpnmmilioonhaaDoor
/- tx.Read and Decode. Written by genRd.py. -/
namespace Go.Proofs.YthpnmmilioonhaaDoor
open Go.RowKit
theorem aZ_no : aZ.T = noTx := by
  unfold aZ txZero noTx zeroKey toU32 toI64
  rfl
theorem ok_no : OkTx noTx := ⟨Nat.zero_le _, Nat.zero_le _, Nat.zero_le _, Nat.zero_le _, fun _ => rfl⟩
theorem tl_no (w : World) : TL w aZ := ⟨.inl ⟨rfl, rfl, rfl⟩, .inl ⟨rfl, rfl, rfl⟩, .inl ⟨rfl, rfl, rfl⟩, .inl ⟨rfl, rfl, rfl⟩⟩
theorem readTx_ok (l : List UInt8) : OkTx (readTx l).1 := by
  unfold readTx
  cases h : txR l with
  | error e => exact ok_no
  | ok x => exact (good_tx.bwd _ _ _ h).1
theorem decTx_okk (l : List UInt8) : OkTx (decTx l).1 := by
  unfold decTx
  cases h : txR l with
  | error e => exact ok_no
  | ok x =>
    obtain ⟨T, r⟩ := x
    have h1 := (good_tx.bwd _ _ _ h).1
    simp only
    split
    · exact h1
    · exact ok_no
theorem litTx (cs : Array Value) (h : cs = aZ.cells.toArray) : cs.size = 38 := by rw [h, tyTx.arr]
theorem TL.below {w w' : World} {a : TxA} (h : TL w a) (hb : Below w.heap.size w w') : TL w' a := by
  have lb : ∀ {α : Type} {enc : α → List Value} {e : TypeId} {A : Option Addr} {c : Nat} {l : List α}, LB enc e w A c l → LB enc e w' A c l := by
    intro α enc e A c l h
    rcases h with h | ⟨b, h1, h2, h3⟩
    · exact .inl h
    · exact .inr ⟨b, h1, h2, below_blk hb h3 h3.lt⟩
  exact ⟨lb h.ins, lb h.outs, lb h.nulls, lb h.notes⟩
theorem TL.onlyX {w w' : World} {g : Nat} {a : TxA} (h : TL w a) {cs : Array Value} (ho : Only [g] w w') (hg : Blk w g 32 cs) : TL w' a := h.onlyT ho hg (by decide) (by decide) (by decide)
/-- what Read's answer is -/
def EndRd (w : World) (x : TxV × List UInt8 × Int) (e : Ending) (w' : World) : Prop :=
  (∃ a : TxA, a.T = x.1 ∧ e = .returned (.tuple #[.agg a.cells.toArray, .string ⟨x.2.1.toArray⟩, .int .i64 x.2.2]) ∧ TL w' a) ∧ Below w.heap.size w w'
set_option maxRecDepth 20000 in
set_option maxHeartbeats 1000000 in
theorem read_r (l : List UInt8) (hs : l.length ≤ 1000000) (w : World) :
    Calls Tryd.prog 76 #[.string ⟨l.toArray⟩] w (EndRd w (readTx l)) := by
  have hc := try_r l hs (w.heap.size + 1)
  have HRA := Lib.hid (fun c2 => (show Rb ((w.alloc (.cells c2 32)).alloc (.cells #[.string ⟨l.toArray⟩] 123)) (w.heap.size + 1) l from blk_new _ _ (by simp)))
  cases hq : txR l with
  | error er =>
    rw [show readTx l = (noTx, [], er) by unfold readTx; rw [hq]]
    have he0 : er ≠ 0 := by rcases errs_tx l er hq with h | h | h <;> omega
    have hd : (er == 0) = false := beq_eq_false_iff_ne.mpr he0
    rw [hq] at hc
    have HC := Lib.hid hc
    clear hq hc he0
    go_enter Tryd.func76, Tryd.ntmps76
    go_wp2_with fail
    refine (HC.out _ (HRA.out _)).mono ?_
    rintro e w1 ⟨rfl, px⟩
    have K2 := Lib.hid (px.blk ((Blk.new w 32 _).alloc _) (by omega))
    have B1 : Below w.heap.size w w1 := (((Below.refl _ _).alloc (Nat.le_refl _) _).alloc (by simp) _).trans (px.below (by omega) (by simp; omega))
    have BH := Lib.hid B1
    have l1 : w.heap.size < w1.heap.size := K2.out.lt
    clear px B1 HC HRA
    go_wp2_with (first
      | ((with_reducible refine at_store 6 14 ?_); refine tyTx.wpList_store rfl (.tmp 6) (.tmp 14) rfl rfl w1.heap.size aZ rfl rfl 32 _ (Blk.new w1 _ _) rfl ?_; intro w2 o2 b2)
      | ((with_reducible refine at_build 18 ?_); refine wpList_built rfl 32 #[] rfl aZ.cells.toArray (by kernel_rfl) ?_)
      | ((with_reducible refine at_store 2 18 ?_); refine tyTx.wpList_store rfl (.tmp 2) (.tmp 18) rfl rfl w.heap.size aZ rfl rfl 32 _ (o2.blk (K2.out.alloc _) (by simp; omega)) rfl ?_; intro w3 o3 b3))
    exact bodyPost_ret (results_cell_tmp2 rfl _ _ w.heap.size 32 _ (0, 0) _ rfl b3 Tryd.underlying32 rfl (by rw [tyTx.arr]; kernel_rfl)) rfl ⟨⟨aZ, aZ_no, rfl, tl_no _⟩, ((BH.out.alloc BH.out.size _).trans (o2.below (by simp; exact BH.out.size))).trans (o3.below (by simp))⟩
  | ok x =>
    obtain ⟨T, r⟩ := x
    rw [show readTx l = (T, r, 0) by unfold readTx; rw [hq]]
    rw [hq] at hc
    have HC := Lib.hid hc
    clear hq hc
    go_enter Tryd.func76, Tryd.ntmps76
    go_wp2_with fail
    refine (HC.out _ (HRA.out _)).mono ?_
    rintro e w1 ⟨a, rfl, rfl, tl, rb, px⟩
    have K2 := Lib.hid (px.blk ((Blk.new w 32 _).alloc _) (by omega))
    have B1 : Below w.heap.size w w1 := (((Below.refl _ _).alloc (Nat.le_refl _) _).alloc (by simp) _).trans (px.below (by omega) (by simp; omega))
    have BH := Lib.hid B1
    have l1 : w.heap.size + 1 < w1.heap.size := rb.lt
    have HTL := Lib.hid tl
    have HRB := Lib.hid rb
    clear px B1 HC HRA tl rb
    go_wp2_with ((with_reducible refine at_store 6 14 ?_); refine tyTx.wpList_store rfl (.tmp 6) (.tmp 14) rfl rfl w1.heap.size a rfl rfl 32 _ (Blk.new w1 _ _) rfl ?_; intro w2 o2 b2)
    have K6 := Lib.hid b2
    have TL2 := Lib.hid ((HTL.out.below ((Below.refl _ _).alloc (Nat.le_refl _) _)).onlyX o2 (Blk.new w1 32 _))
    replace K2 := Lib.hid (o2.blk (K2.out.alloc _) (by simp; omega))
    have RB2 := Lib.hid (o2.blk (HRB.out.alloc _) (by simp; omega))
    have B2 := Lib.hid ((BH.out.alloc BH.out.size _).trans (o2.below (by simp; exact BH.out.size)))
    clear b2 o2 HTL HRB BH
    refine wp_region_held_drew (S := fun w' => Below w.heap.size w w' ∧ (∃ cs : Array Value, cs.size = 38 ∧ Blk w' w.heap.size 32 cs) ∧ Blk w' w1.heap.size 32 a.cells.toArray ∧ Rb w' (w.heap.size + 1) r ∧ TL w' a) (by kernel_rfl) ⟨B2.out.drew, ⟨_, rfl, K2.out.drew⟩, K6.out.drew, RB2.out.drew, TL2.out.below (Below.refl _ _).drew⟩ ?_
    clear K2 K6 B2 RB2 TL2
    generalize w2.drew = wd at *
    intro hS0
    refine wpAnyH_take (i := 0) (v := .agg a.cells.toArray) rfl (by kernel_rfl) (by kernel_rfl) (by kernel_rfl) (fun _ _ _ h => h) (yieldsIf_load_row (by rfl) 32 (.tmp 6) rfl w1.heap.size rfl 32 a.cells.toArray _ (fun _ h => h.2.2.1) Tryd.underlying32 rfl (by rw [tyTx.arr]; kernel_rfl)) hS0 ?_
    simp only [Act.put, List.getElem_toArray, List.getElem_cons_zero, List.setIfInBounds_toArray, List.set_cons_succ, List.set_cons_zero]
    refine wpAnyH_take (i := 1) (v := .pointer (some ⟨w.heap.size + 1, 0, none⟩)) rfl (by kernel_rfl) (by kernel_rfl) (by kernel_rfl) (fun _ _ _ h => h) (Or.inl ⟨by rfl, fun W _ => by go_simp; try with_reducible rfl⟩) hS0 ?_
    simp only [Act.put, List.getElem_toArray, List.getElem_cons_zero, List.getElem_cons_succ, List.setIfInBounds_toArray, List.set_cons_succ, List.set_cons_zero]
    refine wpAnyH_take (i := 2) (v := .pointer (some ⟨w.heap.size + 1, 0, none⟩)) rfl (by kernel_rfl) (by kernel_rfl) (by kernel_rfl) (fun _ _ _ h => h) (Or.inl ⟨by rfl, fun W _ => by go_simp; try with_reducible rfl⟩) hS0 ?_
    simp only [Act.put, List.getElem_toArray, List.getElem_cons_zero, List.getElem_cons_succ, List.setIfInBounds_toArray, List.set_cons_succ, List.set_cons_zero]
    refine wpAnyH_take (i := 3) (v := .pointer (some ⟨w.heap.size + 1, 0, none⟩)) rfl (by kernel_rfl) (by kernel_rfl) (by kernel_rfl) (fun _ _ _ h => h) (Or.inl ⟨by rfl, fun W _ => by go_simp; try with_reducible rfl⟩) hS0 ?_
    simp only [Act.put, List.getElem_toArray, List.getElem_cons_zero, List.getElem_cons_succ, List.setIfInBounds_toArray, List.set_cons_succ, List.set_cons_zero]
    refine wpAnyH_take (i := 4) (v := .string ⟨r.toArray⟩) rfl (by kernel_rfl) (by kernel_rfl) (by kernel_rfl) (fun _ _ _ h => h) (Or.inl ⟨by rfl, fun W hW => by have hcell := hW.2.2.2.1.cell 0; go_simp; try with_reducible rfl⟩) hS0 ?_
    simp only [Act.put, List.getElem_toArray, List.getElem_cons_zero, List.getElem_cons_succ, List.setIfInBounds_toArray, List.set_cons_succ, List.set_cons_zero]
    obtain ⟨c1, h1, k1⟩ := hS0.2.1
    refine wpAnyH_ready (rs := [5]) (by kernel_rfl) (by simp) ?_
    refine AllReadyH.cons rfl (fun Kq hK => ?_) AllReadyH.nil
    refine step_store_arr rfl 32 (.tmp 2) (.tmp 20) rfl rfl w.heap.size a.cells.toArray rfl rfl 32 _ k1 (by rw [tyTx.arr]; kernel_rfl) (by rw [tyTx.arr, h1]) (by rw [List.all_toArray, List.all_eq_true]; exact tyTx.one _) ?_
    intro w3 o3 b3
    refine hK.out _ _ ⟨hS0.1.trans (o3.below (by simp)), ⟨_, tyTx.arr _, b3⟩, o3.blk hS0.2.2.1 (by simp; omega), o3.blk hS0.2.2.2.1 (by simp), hS0.2.2.2.2.onlyX o3 k1⟩ (fun hS1 => ?_)
    clear hK Kq
    refine wpAnyH_ready (rs := [6]) (by kernel_rfl) (by simp) ?_
    refine AllReadyH.cons rfl (fun Kq hK => ?_) AllReadyH.nil
    go_simp
    refine hK.out _ _ hS1 (fun _ => ?_)
    clear hK Kq
    refine wpAnyH_ready (rs := [7]) (by kernel_rfl) (by simp) ?_
    refine AllReadyH.cons rfl (fun Kq hK => ?_) AllReadyH.nil
    go_simp
    refine hK.out _ _ hS1 (fun _ => ?_)
    clear hK Kq
    refine wpAnyH_done (by kernel_rfl) ?_ _
    go_wp2_with fail
    exact bodyPost_ret (results_cell_tmp2 rfl _ _ w.heap.size 32 _ (0, 0) _ rfl b3 Tryd.underlying32 rfl (by rw [tyTx.arr]; kernel_rfl)) rfl ⟨⟨a, rfl, rfl, hS1.2.2.2.2⟩, hS1.1⟩
end Go.Proofs.YthpnmmilioonhaaDoor
/- tx.Decode. -/
namespace Go.Proofs.YthpnmmilioonhaaDoor
open Go.RowKit
theorem results_cell_tmp1 {P : Program} {fn : Func} {p t1 : Tmp} {ty : TypeId} (h : fn.results = #[.cell p ty, .tmp t1]) (tmps : Array Value) (w : World) (g : Nat) (t : TypeId) (cs : Array Value) (fr : Nat × Nat) (d : TypeDesc)
    (hp : tmps.getD p undef = .pointer (some ⟨g, 0, none⟩)) (hg : w.heap[g]? = some (.cells cs t fr))
    (hu : P.underlying ty = some d) (hd : (match d with | .struct _ | .array _ _ => true | _ => false) = true) (hi : (P.info? ty).map (·.size) = some cs.size) :
    (results fn tmps).run P w = .ok (.tuple #[.agg cs, tmps.getD t1 undef]) w := by
  have hp' : tmps[p]?.getD undef = .pointer (some ⟨g, 0, none⟩) := by simpa using hp
  simp [results, h, hp', asAddr, run_loadVar_row w g t ty cs fr d hg hu hd hi]
/-- what Decode's answer is -/
def EndD (w : World) (x : TxV × Int) (e : Ending) (w' : World) : Prop :=
  (∃ a : TxA, a.T = x.1 ∧ e = .returned (.tuple #[.agg a.cells.toArray, .int .i64 x.2]) ∧ TL w' a) ∧ Below w.heap.size w w'
end Go.Proofs.YthpnmmilioonhaaDoor
