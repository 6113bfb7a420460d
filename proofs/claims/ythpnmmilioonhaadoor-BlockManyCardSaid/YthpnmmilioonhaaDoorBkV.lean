/- A strings.Builder that a loop over an iterator writes: writeTxs; may. -/
import Derived.Test.YthpnmmilioonhaaDoorBkN
import Derived.Test.YthpnmmilioonhaaDoorTxAllA
import Derived.Shelf.Strings.BuilderK
namespace Go.Proofs.YthpnmmilioonhaaDoor
open Go.RowKit Go.Shelf
attribute [local go_sem] Oper.semAt_some
/-- the builder in block b holds these bytes -/
abbrev BldF (B b : Nat) (l : List UInt8) (w : World) : Prop := Lib.IsBuilderF 53 5 B b (Lib.byteCells l) w
theorem ownF_below {w w' : World} {B e size n : Nat} {v : Value} {xs : List Value} (h : w.ownsRowF B e size v n xs) (hb : Below w.heap.size w w') : w'.ownsRowF B e size v n xs := by
  refine ⟨h.1, ?_⟩
  rcases h.2 with hn | ⟨g, cap, cur, fz, rfl, hg, hgg, rest⟩
  · exact .inl hn
  · exact .inr ⟨g, cap, cur, fz, rfl, hg, by rw [hb.block g (Array.getElem?_eq_some_iff.1 hgg).1]; exact hgg, rest⟩
theorem bldAtF_below {T e : TypeId} {B b : Nat} {p : Value} {bs : List Value} {w w' : World} (h : Lib.BuilderAtF T e B b p bs w) (hb : Below w.heap.size w w') : Lib.BuilderAtF T e B b p bs w' := by
  obtain ⟨hB, v, hbk, hown, hne⟩ := h
  exact ⟨hB, v, by rw [hb.block b (Array.getElem?_eq_some_iff.1 hbk).1]; exact hbk, ownF_below hown hb, hne⟩
theorem bldF_below {B b : Nat} {l : List UInt8} {w w' : World} (h : BldF B b l w) (hb : Below w.heap.size w w') : BldF B b l w' :=
  h.elim (fun x => .inl (bldAtF_below x hb)) (fun x => .inr (bldAtF_below x hb))
theorem bldAtF_from {T e : TypeId} {B b B0 : Nat} {p : Value} {bs : List Value} {X Y : World} {row : Option Nat} (h : Lib.BuilderAtF T e B b p bs X) (hg : X.grownBy Y row) (hr : ∀ r, row = some r → B0 ≤ r ∧ ∃ o : Obj, X.heap[r]? = some o ∧ o.isCells = false) : Lib.BuilderAtF T e B b p bs Y := by
  obtain ⟨hB, v, hbk, hown, hne⟩ := h
  refine ⟨hB, v, (hg.block b (Array.getElem?_eq_some_iff.1 hbk).1 (fun q => ?_)).trans hbk, hown.kept hg ?_, hne⟩
  · obtain ⟨_, o, ho, hc⟩ := hr b q.symm
    rw [hbk] at ho; cases ho; cases hc
  · rcases hown.2 with ⟨rfl, _⟩ | ⟨g, cap, cur, fz, rfl, _, hgg, _⟩
    · exact .inl rfl
    · refine .inr fun q => ?_
      obtain ⟨_, o, ho, hc⟩ := hr g (by simpa [Value.ownBlock] using q.symm)
      rw [hgg] at ho; cases ho; cases hc
theorem bldF_from {B b B0 : Nat} {l : List UInt8} {X Y : World} {row : Option Nat} (h : BldF B b l X) (hg : X.grownBy Y row) (hr : ∀ r, row = some r → B0 ≤ r ∧ ∃ o : Obj, X.heap[r]? = some o ∧ o.isCells = false) : BldF B b l Y :=
  h.elim (fun x => .inl (bldAtF_from x hg hr)) (fun x => .inr (bldAtF_from x hg hr))
theorem bldF_cell {B b B' : Nat} {l : List UInt8} {w : World} {t : TypeId} {v : Value} (h : BldF B b l w) (hx : Boxed w B' t v) (h1 : 53 ≠ t) (h2 : 5 ≠ t) (u : Value) : BldF B b l (w.setCell ⟨B', 0, none⟩ u) := by
  have one : ∀ {p : Value}, Lib.BuilderAtF 53 5 B b p (Lib.byteCells l) w → Lib.BuilderAtF 53 5 B b p (Lib.byteCells l) (w.setCell ⟨B', 0, none⟩ u) := by
    rintro p ⟨hB, v', hbk, hown, hne⟩
    have hg := grownBy_setCell' w B' u
    refine ⟨hB, v', (hg.block b (Array.getElem?_eq_some_iff.1 hbk).1 (fun q => ?_)).trans hbk, hown.kept hg ?_, hne⟩
    · cases q
      rw [show w.heap[b]? = _ from hx] at hbk
      injection hbk with hbk
      injection hbk with _ q _
      exact h1 q.symm
    · rcases hown.2 with ⟨rfl, _⟩ | ⟨g, cap, cur, fz, rfl, _, hgg, _⟩
      · exact .inl rfl
      · refine .inr fun q => ?_
        obtain rfl : g = B' := by simpa [Value.ownBlock] using q
        rw [show w.heap[g]? = _ from hx] at hgg
        injection hgg with hgg
        injection hgg with _ q _
        exact h2 q.symm
  exact h.elim (fun x => .inl (one x)) (fun x => .inr (one x))
theorem bldw_any (B b : Nat) (l s : List UInt8) (w : World) (h : BldF B b l w) (hlen : l.length + s.length ≤ 1000000) (hBw : B ≤ w.heap.size) :
    Calls Tryd.prog 53 #[.pointer (some ⟨b, 0, none⟩), .string ⟨s.toArray⟩] w fun e w' => e = .returned (.tuple #[.int .i64 s.length, .nilIface]) ∧ BldF B b (l ++ s) w' ∧ Below B w w' ∧ Lib.OthersKept 5 (some b) w w' := by
  refine (Any.Builder_WriteString_k lays166 bextra B b _ ⟨s.toArray⟩ w h (by rw [bcells_len, mkb_size]; omega) hBw).mono ?_
  rintro e w' ⟨rfl, g, hb, hk⟩
  rw [mkb_size]
  refine ⟨rfl, .inr ?_, hb, hk⟩
  rw [← byteCells_app]
  have e : Lib.strCells ⟨s.toArray⟩ = Lib.byteCells s := by simp [Lib.strCells_eq]
  rw [e] at g
  exact g
theorem bldr_any (B b : Nat) (l : List UInt8) (w : World) (h : BldF B b l w) (hBw : B ≤ w.heap.size) :
    Calls Tryd.prog 28 #[.pointer (some ⟨b, 0, none⟩)] w fun e w' => e = .returned (.string ⟨l.toArray⟩) ∧ BldF B b l w' ∧ Below B w w' ∧ Lib.OthersKept 5 (some b) w w' := Any.Builder_String_any_k lays169 bextra B b l w h hBw
theorem ok_blk {b g : Nat} {t : TypeId} {cs : Array Value} {w w' : World} (hk : Lib.OthersKept 5 (some b) w w') (h : Blk w g t cs) (hg : g ≠ b) (ht : t ≠ 5) : Blk w' g t cs :=
  hk g _ h (by simpa using hg) (fun c fz q => by injection q with _ q _; exact ht q)
theorem ok_keeps {b : Nat} {cs : Array Value} {t : TypeId} {fz : Nat × Nat} {w w' : World} (hk : Lib.OthersKept 5 (some b) w w') (hb : w.heap[b]? = some (.cells cs t fz)) (hz : w.heap.size ≤ w'.heap.size) (B : Nat) : KeepsFrom B w w' :=
  ⟨hz, fun k o _ hk0 ho => hk k o hk0 (fun q => by cases q; rw [hb] at hk0; cases hk0; cases ho) (fun c fz q => by subst q; cases ho)⟩
theorem bldF_blk {B b : Nat} {l : List UInt8} {w : World} (h : BldF B b l w) : ∃ cs t fz, w.heap[b]? = some (.cells cs t fz) := by
  rcases h with ⟨_, v, hb, _⟩ | ⟨_, v, hb, _⟩ <;> exact ⟨_, _, _, hb⟩
theorem bldF_fresh (w : World) {W : World} (hW : W = w.alloc (.cells #[.pointer none, .slice none 0 0] 53)) : BldF w.heap.size w.heap.size [] W := Lib.IsBuilderF.of (bld_fresh w _ _ hW)
theorem bmay_any (n : Nat) (hn : n ≤ 18446744073709551615) (w : World) :
    Calls Tryd.prog 22 #[.int .u64 n] w fun e w' => e = .returned (.int .i64 (if n = 0 then 110 else if 30 < n then 51 else 0)) ∧ w' = w := by
  by_cases h0 : n = 0
  · subst h0
    go_enter Tryd.func22, Tryd.ntmps22
    go_wp2
    go_ret
    exact ⟨rfl, rfl⟩
  have hd0 : ((n : Int) == 0) = false := beq_eq_false_iff_ne.mpr (by omega)
  rw [if_neg h0]
  by_cases h30 : 30 < n
  · have hd1 : decide ((30 : Int) < (n : Int)) = true := by simp; omega
    rw [if_pos h30]
    clear h0
    go_enter Tryd.func22, Tryd.ntmps22
    go_wp2
    go_ret
    exact ⟨rfl, rfl⟩
  · have hd1 : decide ((30 : Int) < (n : Int)) = false := by simp; omega
    rw [if_neg h30]
    clear h0
    go_enter Tryd.func22, Tryd.ntmps22
    go_wp2
    go_ret
    exact ⟨rfl, rfl⟩
end Go.Proofs.YthpnmmilioonhaaDoor
