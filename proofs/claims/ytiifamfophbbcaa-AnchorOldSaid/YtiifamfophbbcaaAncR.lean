/- The document's rings. -/
import Derived.Test.YtiifamfophbbcaaAncP
import Derived.Deep.RegionHeld3
namespace Go.Proofs.Ytiifamfophbbcaa
open Go.RowKit
theorem aown_grown {w w' : World} {base : Nat} {e : TypeId} {size n : Nat} {v : Value} {xs : List Value} (h : w.ownsRow base e size v n xs) (hg : w.grownBy w' v.ownBlock) (hB : base ≤ w.heap.size) : Below base w w' := (Below.refl _ _).grown hg hB (own_base h)
theorem aown_congr {w : World} {base : Nat} {e : TypeId} {size : Nat} {v : Value} {l m : List K32} (h : w.ownsRow base e size v l.length (cellsOf encK l)) (e' : l = m) : w.ownsRow base e size v m.length (cellsOf encK m) := e' ▸ h
theorem aown_nil {w : World} {g : Nat} {base : Nat} {e : TypeId} {k : Nat} (hb : Blk w g e #[]) (hg : base ≤ g) : w.ownsRow base e k (.slice (some ⟨g, 0, none⟩) 0 0) 0 [] :=
  ⟨by simp, .inr ⟨g, 0, #[], rfl, hg, hb, Nat.le_refl _, Nat.zero_le _, by simp, by simp⟩⟩
theorem azcK : ((Try.prog.info? 24).bind (·.zero)).map (·.cells.size) = some 32 := by kernel_rfl
theorem azbK : (Try.prog.info? 24).map (·.bytes) = some 32 := by kernel_rfl
theorem azsK : ((Try.prog.info? 24).bind (·.zero)).isSome = true := by kernel_rfl
theorem arowC_only {w w' : World} {L : List Nat} {g o : Nat} {cs : List Value} (h : RowC w g o cs) (hO : Only L w w') (hg : g ∉ L) : RowC w' g o cs := fun j v hj => by rw [hO.cell hg]; exact h j v hj
theorem arow_only {w w' : World} {L : List Nat} {B : Nat} {A : Option Addr} {c : Nat} {l : List K32} (h : RowIn encK 32 w B A c l) (hO : Only L w w') (hA : ∀ g o, A = some ⟨g, o, none⟩ → g ∉ L) : RowIn encK 32 w' B A c l :=
  ⟨h.le, h.max, fun hn => let ⟨g, o, e, hg, hc⟩ := h.cells hn; ⟨g, o, e, hg, arowC_only hc hO (hA g o e)⟩⟩
def Fresh (B : Nat) (A : Option Addr) : Prop := ∀ a, A = some a → B ≤ a.block
theorem fresh_of {w : World} {base : Nat} {e : TypeId} {size n m c : Nat} {A : Option Addr} {xs : List Value} (h : w.ownsRow base e size (.slice A m c) n xs) : Fresh base A := fun a hA => own_base h a.block (by subst hA; rfl)
theorem fresh_cut {B k c i : Nat} {A : Option Addr} (h : Fresh B A) : Fresh B (cutA k c i A) := by
  intro a hA
  unfold cutA at hA
  split at hA
  · exact h a hA
  · cases A with
    | none => cases hA
    | some a0 =>
      have := congrArg Addr.block (Option.some.inj hA)
      rw [block_of_add] at this
      rw [← this]
      exact h a0 rfl
/-- a ring's value: a slice -/
def encR (x : Option Addr × Nat × Nat) : List Value := [.slice x.1 x.2.1 x.2.2]
theorem tyRr : CellTy Try.prog 28 encR 1 := ⟨by kernel_rfl, fun _ => rfl, fun x v hv => by simp only [encR, List.mem_singleton] at hv; subst hv; rfl, Try.isAgg28⟩
theorem results_ring {P : Program} {fn : Func} {p : Tmp} {ty : TypeId} (h : fn.results = #[.cell p ty]) (tmps : Array Value) (w : World) (g : Nat) (t : TypeId) (cs : Array Value) (d : TypeDesc)
    (hp : tmps.getD p undef = .pointer (some ⟨g, 0, none⟩)) (hg : Blk w g t cs)
    (hu : P.underlying ty = some d) (hd : (match d with | .struct _ | .array _ _ => true | _ => false) = true) (hi : (P.info? ty).map (·.size) = some cs.size) :
    (results fn tmps).run P w = .ok (.agg cs) w := by
  have hp' : tmps[p]?.getD undef = .pointer (some ⟨g, 0, none⟩) := by simpa using hp
  simp [results, h, hp', asAddr, run_loadVar_row w g t ty cs (0, 0) d hg hu hd hi]
theorem rRg : Try.prog.underlying 28 = some (.struct #[(Try.prog.fieldsOf 28)[0]!]) := by kernel_rfl
set_option maxRecDepth 20000 in
set_option maxHeartbeats 2000000 in
theorem rPut_r (A : Option Addr) (c : Nat) (l : List K32) (k : K32) (w : World) (hn : l.length ≤ 1000) (hl : RowIn encK 32 w w.heap.size A c l) :
    Calls Try.prog 11 #[.agg #[.slice A l.length c], .agg (encK k).toArray] w fun e w' => ∃ A' c', e = .returned (.agg #[.slice A' (putR l k).length c']) ∧ RowIn encK 32 w' w'.heap.size A' c' (putR l k) ∧ Below w.heap.size w w' := by
  have HN := Lib.hid hn
  have B0 := Lib.hid (show Below w.heap.size w ((((w.alloc (.cells #[.slice A l.length c] 28)).alloc (.cells (encK k).toArray 24)).alloc (.cells #[.slice none 0 0] 28)).alloc (.cells #[] 24)) from ((((Below.refl w.heap.size w).alloc (Nat.le_refl _) _).alloc (by simp) _).alloc (by simp; omega) _).alloc (by simp; omega) _)
  have L0 := Lib.hid (show RowIn encK 32 ((((w.alloc (.cells #[.slice A l.length c] 28)).alloc (.cells (encK k).toArray 24)).alloc (.cells #[.slice none 0 0] 28)).alloc (.cells #[] 24)) w.heap.size A c l from hl.below B0.out)
  have K0 := Lib.hid (show Blk ((((w.alloc (.cells #[.slice A l.length c] 28)).alloc (.cells (encK k).toArray 24)).alloc (.cells #[.slice none 0 0] 28)).alloc (.cells #[] 24)) (w.heap.size + 1) 24 (encK k).toArray from ((blk_new (g := w.heap.size + 1) 24 (encK k).toArray (by simp)).alloc _).alloc _)
  have R0 := Lib.hid (show Blk ((((w.alloc (.cells #[.slice A l.length c] 28)).alloc (.cells (encK k).toArray 24)).alloc (.cells #[.slice none 0 0] 28)).alloc (.cells #[] 24)) (w.heap.size + 1 + 1) 28 #[.slice none 0 0] from (blk_new (g := w.heap.size + 1 + 1) 28 #[.slice none 0 0] (by simp)).alloc _)
  have O0 := Lib.hid (show World.ownsRow ((((w.alloc (.cells #[.slice A l.length c] 28)).alloc (.cells (encK k).toArray 24)).alloc (.cells #[.slice none 0 0] 28)).alloc (.cells #[] 24)) (w.heap.size + 1 + 1 + 1) 24 32 (.slice (some ⟨w.heap.size + 1 + 1 + 1, 0, none⟩) 0 0) ([] : List K32).length (cellsOf encK []) from aown_nil (blk_new (g := w.heap.size + 1 + 1 + 1) 24 #[] (by simp)) (Nat.le_refl _))
  obtain ⟨L2, hL2⟩ : ∃ L2, l ++ [k] = L2 := ⟨_, rfl⟩
  have HL2 := Lib.hid hL2
  have HN2 := Lib.hid (show L2.length = l.length + 1 by rw [← hL2]; simp)
  have HP := Lib.hid (show putR l k = lastN 8 L2 by rw [← hL2]; rfl)
  clear hL2 hl hn
  by_cases h8 : 8 < L2.length
  · have hd : decide ((8 : Int) < (L2.length : Int)) = true := by simp; omega
    obtain ⟨m, hm⟩ : ∃ m, L2.length - 8 = m := ⟨_, rfl⟩
    have hm2 : (L2.length : Int) - 8 = (m : Int) := by omega
    have hmw : IntKind.i64.wrap (m : Int) = (m : Int) := by have := HN.out; have := HN2.out; rw [IntKind.wrap_i64]; omega
    have HM := Lib.hid (show L2.length - m = 8 ∧ m ≤ L2.length from by omega)
    have HD := Lib.hid (show lastN 8 L2 = L2.drop m by unfold lastN; rw [hm])
    clear h8 hm
    go_enter Try.func11, Try.ntmps11
    go_wp2_with (first
      | ((with_reducible refine at_appendg 10 7 9 ?_); refine tyKy.wpList_appendIn rfl azcK 32 azbK (by omega) (.tmp 7) (.tmp 9) rfl (w.heap.size + 1 + 1 + 1) _ ([] : List K32) rfl O0.out _ A c l rfl L0.out (by have := HN.out; simp; omega) (by simp) ?_; intro v4 w4 p4 g4
         have O4 := Lib.hid (aown_congr p4 (List.nil_append l))
         have BB := Lib.hid (aown_grown O0.out g4 (by simp))
         have K4 := Lib.hid (below_blk BB.out K0.out (by omega))
         have R4 := Lib.hid (below_blk BB.out R0.out (by omega))
         have B4 := Lib.hid (B0.out.trans (BB.out.mono (by omega)))
         clear p4 g4)
      | ((with_reducible refine at_load 3 ?_); refine tyKc.wpList_load rfl (.tmp 3) rfl (w.heap.size + 1) 0 rfl k (by simpa using RowC.of_blk K4.out) ?_)
      | ((with_reducible refine at_buildSlice 13 ?_); refine tyKy.wpList_build rfl azsK 1 _ rfl [k] rfl (by omega) (by omega) (by kernel_rfl) ?_)
      | ((with_reducible refine at_appendg 14 11 13 ?_); refine tyKy.wpList_append1 rfl azcK 32 azbK (by omega) (.tmp 11) (.tmp 13) rfl (w.heap.size + 1 + 1 + 1) _ l rfl (O4.out.alloc _) _ 1 k rfl (Blk.new _ _ _) (by have := HN.out; omega) (by have := R4.out.lt; simp; omega) ?_; intro v5 w5 p5 g5
         have B5 := Lib.hid (((Below.refl _ _).alloc (by have := R4.out.lt; omega) _).trans (aown_grown (O4.out.alloc _) g5 (by have := R4.out.lt; simp; omega)) : Below (w.heap.size + 1 + 1 + 1) w4 w5)
         have R5 := Lib.hid (below_blk B5.out R4.out (by omega))
         have B6 := Lib.hid (B4.out.trans (B5.out.mono (by omega)))
         rw [HL2.out] at p5
         obtain ⟨A5, c5, rfl, r5⟩ := RowIn.of_own encK_len p5
         have F5 := Lib.hid (fresh_of p5)
         have I5 := Lib.hid r5
         have hs : ∀ W, (Instr.slice 22 (.slice A5 L2.length c5) (some (.int .i64 (m : Int))) none none).run Try.prog W = .ok (.slice (cutA 32 c5 m A5) 8 (c5 - m)) W := fun W => by have := tyKy.slice_from W A5 L2.length c5 m HM.out.2; rwa [HM.out.1] at this
         clear p5 g5 r5)
      | ((with_reducible refine at_store 4 24 ?_); refine tyRr.wpList_store rfl (.tmp 4) (.tmp 24) rfl rfl (w.heap.size + 1 + 1) (cutA 32 c5 m A5, 8, c5 - m) rfl rfl 28 _ R5.out rfl ?_; intro w7 o7 b7))
    have hl8 : (putR l k).length = 8 := by rw [HP.out, HD.out, List.length_drop]; exact HM.out.1
    refine bodyPost_ret (results_ring rfl _ _ (w.heap.size + 1 + 1) 28 _ _ rfl b7 rRg rfl (by kernel_rfl)) rfl ⟨cutA 32 c5 m A5, c5 - m, ?_, ?_, B6.out.trans (o7.below (by simp <;> omega))⟩
    · rw [hl8]
      rfl
    · rw [HP.out, HD.out, o7.size]
      exact arow_only (I5.out.drop encK_len m HM.out.2) o7 (fun g o hA => by have h := fresh_cut F5.out _ hA; simp only [List.mem_singleton]; intro e; simp only at h; omega)
  · have hd : decide ((8 : Int) < (L2.length : Int)) = false := by simp; omega
    have H8 := Lib.hid h8
    clear h8
    go_enter Try.func11, Try.ntmps11
    go_wp2_with (first
      | ((with_reducible refine at_appendg 10 7 9 ?_); refine tyKy.wpList_appendIn rfl azcK 32 azbK (by omega) (.tmp 7) (.tmp 9) rfl (w.heap.size + 1 + 1 + 1) _ ([] : List K32) rfl O0.out _ A c l rfl L0.out (by have := HN.out; simp; omega) (by simp) ?_; intro v4 w4 p4 g4
         have O4 := Lib.hid (aown_congr p4 (List.nil_append l))
         have BB := Lib.hid (aown_grown O0.out g4 (by simp))
         have K4 := Lib.hid (below_blk BB.out K0.out (by omega))
         have R4 := Lib.hid (below_blk BB.out R0.out (by omega))
         have B4 := Lib.hid (B0.out.trans (BB.out.mono (by omega)))
         clear p4 g4)
      | ((with_reducible refine at_load 3 ?_); refine tyKc.wpList_load rfl (.tmp 3) rfl (w.heap.size + 1) 0 rfl k (by simpa using RowC.of_blk K4.out) ?_)
      | ((with_reducible refine at_buildSlice 13 ?_); refine tyKy.wpList_build rfl azsK 1 _ rfl [k] rfl (by omega) (by omega) (by kernel_rfl) ?_)
      | ((with_reducible refine at_appendg 14 11 13 ?_); refine tyKy.wpList_append1 rfl azcK 32 azbK (by omega) (.tmp 11) (.tmp 13) rfl (w.heap.size + 1 + 1 + 1) _ l rfl (O4.out.alloc _) _ 1 k rfl (Blk.new _ _ _) (by have := HN.out; omega) (by have := R4.out.lt; simp; omega) ?_; intro v5 w5 p5 g5
         have B5 := Lib.hid (((Below.refl _ _).alloc (by have := R4.out.lt; omega) _).trans (aown_grown (O4.out.alloc _) g5 (by have := R4.out.lt; simp; omega)) : Below (w.heap.size + 1 + 1 + 1) w4 w5)
         have R5 := Lib.hid (below_blk B5.out R4.out (by omega))
         have B6 := Lib.hid (B4.out.trans (B5.out.mono (by omega)))
         rw [HL2.out] at p5
         obtain ⟨A5, c5, rfl, r5⟩ := RowIn.of_own encK_len p5
         have F5 := Lib.hid (fresh_of p5)
         have I5 := Lib.hid r5
         clear p5 g5 r5)
      | ((with_reducible refine at_store 4 24 ?_); refine tyRr.wpList_store rfl (.tmp 4) (.tmp 24) rfl rfl (w.heap.size + 1 + 1) (A5, L2.length, c5) rfl rfl 28 _ R5.out rfl ?_; intro w7 o7 b7))
    refine bodyPost_ret (results_ring rfl _ _ (w.heap.size + 1 + 1) 28 _ _ rfl b7 rRg rfl (by kernel_rfl)) rfl ⟨A5, c5, ?_, ?_, B6.out.trans (o7.below (by simp <;> omega))⟩
    · rw [HP.out, lastN_all (by have := H8.out; omega)]
      rfl
    · rw [HP.out, lastN_all (by have := H8.out; omega), o7.size]
      exact arow_only I5.out o7 (fun g o hA => by have h := F5.out _ hA; simp only [List.mem_singleton]; intro e; simp only at h; omega)
end Go.Proofs.Ytiifamfophbbcaa
