/- The document's tree of notes. Written by genTO.py. -/
import Derived.Test.YtfmidmhbnpincaaDoorTreeI
namespace Go.Proofs.YtfmidmhbnpincaaDoor
open Go.RowKit
abbrev ptK (l : List K32) (i : Nat) : K32 := partOf pairK zeroKey l i
/-- the tree of l, its first n parts filled -/
def ofN (l : List K32) (n : Nat) (h : n ≤ 32) (hl : l.length < 4294967296) : TrV := ⟨l.length, (List.range n).map (ptK l) ++ List.replicate (32 - n) zeroKey, hl, by simp; omega⟩
def ofT (l : List K32) (hl : l.length < 4294967296) : TrV := ⟨l.length, (List.range 32).map (ptK l), hl, by simp⟩
theorem ofN_all (l : List K32) (hl : l.length < 4294967296) : ofN l 32 (by omega) hl = ofT l hl := by
  unfold ofN ofT
  simp
theorem ofT_V (l : List K32) (hl : l.length < 4294967296) : (ofT l hl).V = ofV pairK zeroKey l := rfl
theorem ofN_set (l : List K32) (n : Nat) (h : n < 32) (hl : l.length < 4294967296) : (ofN l n (by omega) hl).setP n (ptK l n) = ofN l (n + 1) (by omega) hl := by
  unfold ofN TrV.setP
  congr 1
  simp only
  rw [List.set_append_right _ _ (by simp), show (List.map (ptK l) (List.range n)).length = n by simp, Nat.sub_self, show 32 - n = (32 - (n + 1)) + 1 by omega, List.replicate_succ, List.set_cons_zero, List.range_succ (n := n), List.map_append]
  simp
theorem ofN_skip (l : List K32) (n : Nat) (h : n < 32) (hl : l.length < 4294967296) (hb : bitN l.length n = false) : ofN l n (by omega) hl = ofN l (n + 1) (by omega) hl := by
  unfold ofN
  congr 1
  rw [show 32 - n = (32 - (n + 1)) + 1 by omega, List.replicate_succ, List.range_succ (n := n), List.map_append, List.append_assoc, List.map_cons, List.map_nil, show ptK l n = zeroKey from part_none pairK zeroKey l n hb]
  rfl
theorem of_facts (l : List K32) (n : Nat) (hl : l.length ≤ 100000) (hb : bitN l.length n = true) :
    ∃ q fr tq : Nat, ptK l n = atK n ((l.drop fr).take q) ∧ tq ≤ l.length ∧ fr + q = tq ∧ (l.length : Int) / 2 ^ (n + 1) * 2 ^ (n + 1) % 4294967296 = (fr : Int) ∧ wrap64 ((fr : Int) + wrap64 (2 ^ n)) = (tq : Int) := by
  have hp : ptK l n = atK n ((l.drop (l.length - l.length % 2 ^ (n + 1))).take (2 ^ n)) := by
    show partOf pairK zeroKey l n = _
    unfold partOf
    rw [if_pos hb]
  have hm := mod_bit l.length n
  rw [hb, if_pos rfl] at hm
  have hmle := mod_le' l.length (n + 1)
  have hdm := Nat.div_add_mod' l.length (2 ^ (n + 1))
  have e1 : (l.length : Int) / 2 ^ (n + 1) * 2 ^ (n + 1) = ((l.length / 2 ^ (n + 1) * 2 ^ (n + 1) : Nat) : Int) := by norm_cast
  have e2 : (2 : Int) ^ n = ((2 ^ n : Nat) : Int) := by norm_cast
  rw [e1, e2]
  generalize l.length / 2 ^ (n + 1) * 2 ^ (n + 1) = f at hdm e1 ⊢
  generalize l.length % 2 ^ (n + 1) = r at hm hmle hdm hp
  generalize l.length % 2 ^ n = r2 at hm
  generalize 2 ^ n = q at hm hp e2 ⊢
  clear e1 e2
  refine ⟨q, l.length - r, l.length - r + q, hp, by omega, rfl, by omega, ?_⟩
  have hf : (q : Int) ≤ 100000 := by omega
  have h3 : wrap64 (q : Int) = (q : Int) := by unfold wrap64; omega
  rw [h3]
  have h4 : ((l.length - r : Nat) : Int) ≤ 100000 := by omega
  generalize l.length - r = z at h4 ⊢
  unfold wrap64
  omega
structure OfS (w : World) (Z : Array Value) (t : TrV) (W : World) : Prop where
  below : Below w.heap.size w W
  r : Blk W w.heap.size 33 Z
  t : Blk W (w.heap.size + 1) 33 t.cells.toArray
theorem OfS.call {w W W' : World} {Z : Array Value} {t : TrV} (h : OfS w Z t W) (hb : Below W.heap.size W W') : OfS w Z t W' :=
  ⟨h.below.trans (hb.mono h.below.size), below_blk hb h.r h.r.lt, below_blk hb h.t h.t.lt⟩
set_option maxRecDepth 100000 in
set_option maxHeartbeats 2000000 in
theorem rOf_r (A : Option Addr) (c : Nat) (l : List K32) (w : World) (hl : RowIn encK 32 w w.heap.size A c l) (hn : l.length ≤ 100000) :
    Calls Tryd.prog 20 #[.slice A l.length c] w fun e w' => e = .returned (.agg (ofT l (by omega)).cells.toArray) ∧ Below w.heap.size w w' := by
  obtain ⟨Z, hZ, hz, hzs, hzn⟩ := zero_of zeroRf_ok zT_size
  have HS := Lib.hid hzs
  have HL := Lib.hid hl
  have HN := Lib.hid hn
  have hcv : IntKind.u32.wrap (l.length : Int) = (l.length : Int) := by rw [IntKind.wrap_u32']; omega
  have h32 : l.length < 4294967296 := by omega
  have hle := hl.le
  rw [← ofN_all l h32]
  have HLE := Lib.hid hle
  have H32 := Lib.hid h32
  clear hZ hzs hl hle
  go_enter Tryd.func20, Tryd.ntmps20
  go_wp2_with (first
    | ((with_reducible refine at_build 9 ?_); refine wpList_built rfl 33 #[(0, .tmp 8)] rfl (ofN l 0 (by omega) H32.out).cells.toArray (by kernel_rfl) ?_)
    | ((with_reducible refine at_store 3 9 ?_); refine tyRf.wpList_store rfl (.tmp 3) (.tmp 9) rfl rfl (w.heap.size + 1) (ofN l 0 (by omega) H32.out) rfl rfl 33 Z (by have := Blk.new (w.alloc (.cells Z 33)) 33 Z; rwa [World.size_alloc] at this) (by rw [HS.out]) ?_; intro w2 o2 b2
       have S0 := Lib.hid (show OfS w Z (ofN l 0 (by omega) H32.out) w2 from ⟨(((Below.refl w.heap.size w).alloc (Nat.le_refl _) (.cells Z 33)).alloc (by simp) (.cells Z 33)).trans (o2.below (by simp)), o2.blk ((Blk.new w 33 Z).alloc (.cells Z 33)) (by simp), b2⟩)
       clear o2 b2))
  clear hz hzn hcv
  go_loopw [4] (fun i wr => ∃ (n : Nat) (hn : n ≤ 32), i = .int .i64 n ∧ Hid (OfS w Z (ofN l n hn h32) wr)) (fun i _ => 32 - (intOf i).toNat)
  case atStart => exact ⟨0, by omega, rfl, S0⟩
  case round =>
    clear S0
    obtain ⟨n, hn, rfl, AS⟩ := hrel
    by_cases hlt : n < 32
    · have hd : decide ((n : Int) < 32) = true := by simp; omega
      have c0 : wr.cell? ⟨w.heap.size + 1, 0, none⟩ = some (.int .u32 l.length) := TrV.c0 (t := ofN l n hn h32) (RowC.of_blk AS.out.t)
      have hbt := bit_test l.length n h32
      have hge : (0 : Int) ≤ (n : Int) := by omega
      have hi1 : (n : Int) < 32 := by omega
      cases hb : bitN l.length n with
      | true =>
        rw [hb] at hbt
        obtain ⟨q, fr, tq, hpt, hfq, hto, h1, h2⟩ := of_facts l n HN.out hb
        have HF := Lib.hid (And.intro hfq hto)
        clear hfq hto hb
        have hsl : ∀ W, (Instr.slice 28 (.slice A l.length c) (some (.int .i64 (fr : Int))) (some (.int .i64 (tq : Int))) none).run Tryd.prog W = .ok (.slice (cutA 32 c fr A) q (c - fr)) W := fun W => by
          have := tyKy.slice_mid W A l.length c fr tq (by have := HF.out; omega) (by have := HLE.out; have := HF.out; omega)
          rwa [show tq - fr = q by have := HF.out; omega] at this
        have hc := rAt_r n (by omega) (cutA 32 c fr A) (c - fr) ((l.drop fr).take q) wr ((((HL.out.below AS.out.below).more AS.out.below.size).drop encK_len fr (by have := HF.out; omega)).take encK_len q) (by rw [List.length_take, List.length_drop]; have := HN.out; omega)
        rw [show ((l.drop fr).take q).length = q by rw [List.length_take, List.length_drop]; have := HF.out; omega, ← hpt] at hc
        have HC := Lib.hid hc
        clear hc hpt
        go_wp2_with fail
        refine HC.out.mono ?_
        rintro e x1 ⟨rfl, b1⟩
        have A1 := Lib.hid (AS.out.call b1)
        clear b1 HC
        go_wp2_with ((with_reducible refine at_store 40 38 ?_); refine tyKc.wpList_storeAt rfl (.tmp 40) (.tmp 38) rfl rfl (w.heap.size + 1) (1 + n * 32) (ptK l n) rfl rfl 33 _ A1.out.t (by rw [TrV.len]; omega) ?_; intro w5 o5 b5; rw [TrV.set_part _ n hlt, ofN_set l n hlt h32] at b5
                     have A5 := Lib.hid (show OfS w Z (ofN l (n + 1) (by omega) h32) w5 from ⟨A1.out.below.trans (o5.below (by simp)), o5.blk A1.out.r (by simp), b5⟩)
                     clear o5 b5)
        go_roundw
        case rel => exact ⟨n + 1, by omega, by go_num, A5⟩
        case measure => simp [intOf]; omega
      | false =>
        rw [hb] at hbt
        have S1 := Lib.hid (show OfS w Z (ofN l (n + 1) (by omega) h32) wr from by rw [← ofN_skip l n hlt h32 hb]; exact AS.out)
        clear hb
        go_wp2_with fail
        go_roundw
        case rel => exact ⟨n + 1, by omega, by go_num, S1⟩
        case measure => simp [intOf]; omega
    · obtain rfl : n = 32 := by omega
      go_wp2_with (first
        | ((with_reducible refine at_load 3 ?_); refine tyRf.wpList_load rfl (.tmp 3) rfl (w.heap.size + 1) 0 rfl (ofN l 32 hn h32) (by simpa using RowC.of_blk AS.out.t) ?_)
        | ((with_reducible refine at_store 2 41 ?_); refine tyRf.wpList_store rfl (.tmp 2) (.tmp 41) rfl rfl w.heap.size (ofN l 32 hn h32) rfl rfl 33 Z AS.out.r (by rw [HS.out]) ?_; intro w7 o7 b7))
      exact bodyPost_ret (results_cell1 rfl _ _ w.heap.size 33 _ (0, 0) _ rfl b7 Tryd.underlying33 rfl (by rw [tyRf.arr]; kernel_rfl)) rfl ⟨rfl, AS.out.below.trans (o7.below (by simp))⟩
end Go.Proofs.YtfmidmhbnpincaaDoor
