/- What the project's rings answer, as assumptions that each law's walk takes; the law's 'shown'. -/
import Derived.Test.YtiifamfophbbcaaAncB
namespace Go.Proofs.Ytiifamfophbbcaa
open Go.RowKit
def NewOk : Prop := ∀ (k : K32) (w : World), Calls Try.prog 19 #[.agg (encK k).toArray] w fun e w' => ∃ A c, e = .returned (.agg #[.slice A 1 c]) ∧ RowIn encK 32 w' w'.heap.size A c [k] ∧ Below w.heap.size w w'
def PutOk : Prop := ∀ (A : Option Addr) (c : Nat) (l : List K32) (k : K32) (w : World), l.length ≤ 200 → RowIn encK 32 w w.heap.size A c l → Calls Try.prog 10 #[.agg #[.slice A l.length c], .agg (encK k).toArray] w fun e w' => ∃ A' c', e = .returned (.agg #[.slice A' (putR l k).length c']) ∧ RowIn encK 32 w' w'.heap.size A' c' (putR l k) ∧ Fresh w.heap.size A' ∧ Below w.heap.size w w'
def BackOk : Prop := ∀ (A : Option Addr) (c : Nat) (l : List K32) (w : World), l.length ≤ 200 → RowIn encK 32 w w.heap.size A c l → Calls Try.prog 12 #[.agg #[.slice A l.length c]] w fun e w' => ∃ A' c', e = .returned (.tuple #[.agg #[.slice A' (backR l).length c'], .int .i64 (backE l)]) ∧ RowIn encK 32 w' w'.heap.size A' c' (backR l) ∧ Below w.heap.size w w'
def HasOk : Prop := ∀ (A : Option Addr) (c : Nat) (l : List K32) (k : K32) (w : World), l.length ≤ 200 → RowIn encK 32 w w.heap.size A c l → Calls Try.prog 17 #[.agg #[.slice A l.length c], .agg (encK k).toArray] w fun e w' => e = .returned (.bool (hasR l k)) ∧ Below w.heap.size w w'
def LastOk : Prop := ∀ (A : Option Addr) (c : Nat) (l : List K32) (w : World), l.length ≤ 200 → RowIn encK 32 w w.heap.size A c l → Calls Try.prog 14 #[.agg #[.slice A l.length c]] w fun e w' => e = .returned (.tuple #[.agg (encK (lastR l)).toArray, .bool (decide (0 < l.length))]) ∧ Below w.heap.size w w'
theorem tyRg : CellTy Try.prog 27 encR 1 := ⟨by kernel_rfl, fun _ => rfl, fun x v hv => by simp only [encR, List.mem_singleton] at hv; subst hv; rfl, Try.isAgg27⟩
theorem Fresh.mono {B B' : Nat} {A : Option Addr} (h : Fresh B A) (hB : B' ≤ B) : Fresh B' A := fun a ha => Nat.le_trans hB (h a ha)
/-- a row stays where a slice grows that lies elsewhere -/
theorem arow_grown {w w' : World} {row : Option Nat} {B : Nat} {A : Option Addr} {c : Nat} {l : List K32} (h : RowIn encK 32 w B A c l) (hg : w.grownBy w' row) (hA : ∀ a, A = some a → some a.block ≠ row) (hB : B ≤ w.heap.size) : RowIn encK 32 w' B A c l :=
  ⟨h.le, h.max, fun hn => let ⟨g, o, e, hgB, hc⟩ := h.cells hn; ⟨g, o, e, hgB, fun j v hj => by
    rw [World.cell?_of_block (w := w) (hg.block g (Nat.lt_of_lt_of_le hgB hB) (hA _ e))]
    exact hc j v hj⟩⟩
section
variable {α : Type} {enc : α → List Value} {k : Nat} {P : Program} {t e : TypeId} (T : RowTy P t e enc k)
include T
/-- append of one element: and where the row lies then -/
theorem RowTy.wpList_append1b {ops : Array Oper} {rest : List Oper} {o : Oper} {a : Act} {w : World} {Q : Exit → Act → World → Prop} (hgd : o.guard = none) (hz : ((P.info? e).bind (·.zero)).map (·.cells.size) = some k) (bytes : Nat) (hb : (P.info? e).map (·.bytes) = some bytes) (hby : bytes ≤ 100000) (s x : Operand)
    (ho : o.op = .call { callee := .builtin .append, args := #[s, x], argTypes := #[t, t] })
    (base : Nat) (v : Value) (l : List α) (hs : a.eval s = v) (hown : w.ownsRow base e k v l.length (cellsOf enc l))
    (g c : Nat) (y : α) (hx : a.eval x = .slice (some ⟨g, 0, none⟩) 1 c) (hg : Blk w g e (cellsOf enc [y]).toArray) (hn : l.length ≤ 1000000) (hbase : base ≤ w.heap.size)
    (h : ∀ v' w', w'.ownsRow base e k v' (l ++ [y]).length (cellsOf enc (l ++ [y])) → w.grownBy w' v.ownBlock → (v'.ownBlock = v.ownBlock ∨ v'.ownBlock = some w.heap.size) → wpList P ops Q rest (a.put o.dst v') w') : wpList P ops Q (o :: rest) a w := by
  have hsz := T.size
  cases hie : P.info? e with
  | none => simp [hie] at hsz
  | some ie =>
    simp only [hie, Option.map_some, Option.some.injEq, Option.bind_some, Option.map_eq_some_iff] at hsz hz hb
    obtain ⟨z, hz1, hz2⟩ := hz
    refine wpList_append_any w hgd s x t ho base e ie z k bytes T.slice hie hz1 hsz hb hz2 T.pos v l.length (cellsOf enc l) hs hown (g + 1) (some ⟨g, 0, none⟩) 1 c (cellsOf enc [y]) hx ?_ (cellsOf_all1 T.one _) ?_ ?_ hbase ?_
    · refine ⟨by rw [cellsOf_len T.len]; rfl, fun _ => ⟨_, rfl, by simp, fun j u hj => ?_⟩⟩
      have hadd : (⟨g, 0, none⟩ : Addr).add j = ⟨g, 0 + j, none⟩ := by unfold Addr.add; split <;> simp_all
      rw [hadd]
      exact RowC.of_blk hg j u (by simpa using hj)
    · unfold maxLen; omega
    · have : (l.length + 1) * bytes ≤ 1000001 * 100000 := Nat.mul_le_mul (by omega) hby
      omega
    · intro v' w' h2 h3 h4
      exact h v' w' (by rw [List.length_append, cellsOf_append]; exact h2) h3 h4
end
def ak1 : K32 := ⟨1 :: List.replicate 31 0, by simp⟩
def ak2 : K32 := ⟨2 :: List.replicate 31 0, by simp⟩
set_option maxRecDepth 20000 in
set_option maxHeartbeats 2000000 in
theorem ashown_any (HNW : NewOk) (HPT : PutOk) (HHS : HasOk) (w : World) :
    Calls Try.prog 9 #[] w fun e w' => e = .returned (.bool true) ∧ Below w.heap.size w w' := by
  unfold NewOk at HNW
  unfold PutOk at HPT
  unfold HasOk at HHS
  have HN := Lib.hid HNW
  have HP := Lib.hid HPT
  have HH := Lib.hid HHS
  have B0 := Lib.hid (Below.refl w.heap.size w)
  clear HNW HPT HHS
  go_enter Try.func9, Try.ntmps9
  go_wp2_with ((with_reducible refine at_build 2 ?_); refine wpList_built rfl 24 #[(0, .const (.int .u8 1))] rfl (encK ak1).toArray (by kernel_rfl) ?_)
  refine (HN.out ak1 _).mono ?_
  rintro e w1 ⟨A, c, rfl, r1, b1⟩
  have R1 := Lib.hid r1
  have B1 := Lib.hid b1
  clear r1 b1
  go_wp2_with ((with_reducible refine at_build 4 ?_); refine wpList_built rfl 24 #[(0, .const (.int .u8 2))] rfl (encK ak2).toArray (by kernel_rfl) ?_)
  refine (HP.out A c [ak1] ak2 _ (by decide) R1.out).mono ?_
  rintro e w2 ⟨A2, c2, rfl, r2, _, b2⟩
  have hp : putR [ak1] ak2 = [ak1, ak2] := rfl
  rw [hp] at r2 ⊢
  have R2 := Lib.hid r2
  have B2 := Lib.hid (B1.out.trans (b2.mono B1.out.size))
  clear r2 b2 hp R1 B1
  go_wp2_with (first
    | ((with_reducible refine at_store 1 5 ?_); refine tyRg.wpList_store rfl (.tmp 1) (.tmp 5) rfl rfl w2.heap.size (A2, 2, c2) rfl rfl 27 _ (Blk.new w2 27 _) rfl ?_; intro w3 o3 b3
       have B3 := Lib.hid (((B2.out.alloc B2.out.size _).trans (o3.below (by have := B2.out.size; simp; omega))) : Below w.heap.size w w3)
       have K3 := Lib.hid (show Blk w3 w2.heap.size 27 #[.slice A2 2 c2] from b3)
       have S3 := Lib.hid (show w2.heap.size ≤ w3.heap.size by rw [o3.size]; simp)
       have R3 := Lib.hid (show RowIn encK 32 w3 w3.heap.size A2 c2 [ak1, ak2] from ((R2.out.below ((Below.refl _ _).alloc (Nat.le_refl _) _)).below (o3.below (B := w2.heap.size) (by simp))).more S3.out)
       clear o3 b3)
    | ((with_reducible refine at_load 1 ?_); refine tyRg.wpList_load rfl (.tmp 1) rfl w2.heap.size 0 rfl (A2, 2, c2) (RowC.of_blk K3.out) ?_)
    | ((with_reducible refine at_build 7 ?_); refine wpList_built rfl 24 #[(0, .const (.int .u8 1))] rfl (encK ak1).toArray (by kernel_rfl) ?_))
  refine (HH.out A2 c2 [ak1, ak2] ak1 _ (by decide) R3.out).mono ?_
  rintro e w4 ⟨rfl, b4⟩
  rw [show hasR [ak1, ak2] ak1 = true by decide]
  have B4 := Lib.hid (B3.out.trans (b4.mono B3.out.size))
  have K4 := Lib.hid (below_blk b4 K3.out K3.out.lt)
  have R4 := Lib.hid ((R3.out.below b4).more b4.size)
  clear b4
  go_wp2_with (first
    | ((with_reducible refine at_loadg 1 ?_); refine tyRg.wpList_load (by rfl) (.tmp 1) rfl w2.heap.size 0 rfl (A2, 2, c2) (RowC.of_blk K4.out) ?_)
    | ((with_reducible refine at_build 11 ?_); refine wpList_unguard (by rfl) ?_; refine wpList_built rfl 24 #[(0, .const (.int .u8 2))] rfl (encK ak2).toArray (by kernel_rfl) ?_))
  refine (HH.out A2 c2 [ak1, ak2] ak2 _ (by decide) R4.out).mono ?_
  rintro e w5 ⟨rfl, b5⟩
  rw [show hasR [ak1, ak2] ak2 = true by decide]
  have B5 := Lib.hid (B4.out.trans (b5.mono B4.out.size))
  have c5 : w5.cell? ⟨w2.heap.size, 0, none⟩ = some (.slice A2 2 c2) := (below_blk b5 K4.out K4.out.lt).cell 0
  clear b5
  go_wp2_with fail
  go_ret
  exact ⟨rfl, B5.out⟩
end Go.Proofs.Ytiifamfophbbcaa
