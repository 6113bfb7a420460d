/- A slice without spare room, and an append to one. Over any program. -/
import Derived.Test.YtiboelfakajohaaCellA
import Derived.ArgAppend
import Derived.Deep.RegionLawGrows
namespace Go.Proofs.Ytiboelfakajohaa
open Go.RowKit
section
variable {α : Type} {enc : α → List Value} {k : Nat} {P : Program} {t e : TypeId} (T : RowTy P t e enc k)
include T
theorem RowTy.slice_full (w : World) (A : Option Addr) (n c i m : Nat) (hi : i + m = n) (hc : n ≤ c) :
    (Instr.slice t (.slice A n c) (some (.int .i64 (i : Int))) (some (.int .i64 (n : Int))) (some (.int .i64 (n : Int)))).run P w = .ok (.slice (cutA k n i A) m m) w := by
  have he : P.elem t = e := by simp [Program.elem, T.slice]
  rw [run_slice_lhm w t A n c (by rw [he]; exact T.slice) .i64 .i64 .i64 i n n (by omega) (by omega) (by omega) (by omega), he, T.sizeOf]
  simp only [Result.andThen_ok, sliced, Int.toNat_natCast, cutA]
  rw [show n - i = m by omega]
/-- append of one element to a slice that has no spare room -/
theorem RowTy.step_appendFull {ops : Array Oper} {o : Oper} {a : Act} {w : World} {K : Act → World → Prop} {Q : Exit → Act → World → Prop} {E : Prop} (hgd : o.guard = none) (hz : ((P.info? e).bind (·.zero)).map (·.cells.size) = some k) (bytes : Nat) (hb : (P.info? e).map (·.bytes) = some bytes) (hby : bytes ≤ 100000) (s x : Operand)
    (ho : o.op = .call { callee := .builtin .append, args := #[s, x], argTypes := #[t, t] })
    (B : Nat) (A : Option Addr) (n : Nat) (l : List α) (hl : l.length = n) (hs : a.eval s = .slice A n n) (hr : RowIn enc k w B A n l)
    (g c : Nat) (y : α) (hx : a.eval x = .slice (some ⟨g, 0, none⟩) 1 c) (hg : Blk w g e (cellsOf enc [y]).toArray) (hn : n ≤ 1000000)
    (h : ∀ v' w', w'.ownsRow w.heap.size e k v' (l ++ [y]).length (cellsOf enc (l ++ [y])) → w.grownBy w' none → K (a.put o.dst v') w') : if Region.wanted o (yielded ops a.tmps) = true then Oper.wp P o a w K Q else E := by
  have hsz := T.size
  cases hie : P.info? e with
  | none => simp [hie] at hsz
  | some ie =>
    simp only [hie, Option.map_some, Option.some.injEq, Option.bind_some, Option.map_eq_some_iff] at hsz hz hb
    obtain ⟨z, hz1, hz2⟩ := hz
    refine step_append_grows hgd s x t ho e ie z k bytes T.slice hie hz1 hsz hb hz2 T.pos A n n (cellsOf enc l) hs ?_ (by rw [cellsOf_len T.len, hl]) ?_ ⟨g, 0, none⟩ 1 c (cellsOf enc [y]) hx (by rw [cellsOf_len T.len]; rfl) ?_ (cellsOf_all1 T.one _) (by omega) (by unfold maxLen; omega) ?_ ?_
    · intro hA
      have : l = [] := Classical.byContradiction fun hne => by
        obtain ⟨g', o', e', _⟩ := hr.cells hne
        rw [hA] at e'; cases e'
      subst this
      exact ⟨hl.symm, hl.symm⟩
    · intro b hb' j u hj
      by_cases hne : l = []
      · subst hne; simp [cellsOf] at hj
      · obtain ⟨g', o', e', _, hc⟩ := hr.cells hne
        rw [hb'] at e'
        obtain rfl := Option.some.inj e'
        have hadd : (⟨g', o', none⟩ : Addr).add j = ⟨g', o' + j, none⟩ := by unfold Addr.add; split <;> simp_all
        rw [hadd]
        exact hc j u hj
    · intro j u hj
      have hadd : (⟨g, 0, none⟩ : Addr).add j = ⟨g, 0 + j, none⟩ := by unfold Addr.add; split <;> simp_all
      rw [hadd]
      exact RowC.of_blk hg j u (by simpa using hj)
    · have : (n + 1) * bytes ≤ 1000001 * 100000 := Nat.mul_le_mul (by omega) hby
      omega
    · intro v' w' h2 h3
      exact h v' w' (by rw [List.length_append, cellsOf_append, hl]; exact h2) h3
end
section
variable {α : Type} {enc : α → List Value} {k : Nat} {w : World} {B c : Nat} {A : Option Addr} {l : List α}
theorem RowIn.trim (h : RowIn enc k w B A c l) : RowIn enc k w B A l.length l := ⟨Nat.le_refl _, Nat.le_trans h.le h.max, h.cells⟩
end
theorem yieldsIf_load_one {P : Program} {ops : Array Oper} {S : World → Prop} {a : Act} {o : Oper} (hw : Region.wanted o (yielded ops a.tmps) = true) (ty : TypeId) (x : Operand) (ho : o.op = .load ty x)
    (p : Addr) (hx : a.eval x = .pointer (some p)) (v : Value) (ha : ∀ w, (isAgg ty).run P w = .ok false w) (hg : ∀ w, S w → w.cell? p = some v) : YieldsIf P ops S o v a :=
  .inl ⟨hw, fun w hS => by
    unfold execOp
    simp only [ho, hx, Instr.loadAt, Instr.sureAddr, Sem.run_bind, Sem.run_pure, Result.andThen_ok, run_loadVar_one ha (hg w hS)]⟩
end Go.Proofs.Ytiboelfakajohaa
