/- OracleItems, OracleGood, OracleFirst. Written by genLVe.py. -/
import Derived.Test.YthepiegaoekccaaLVd
namespace Go.Proofs.Ythepiegaoekccaa
open Go.RowKit
theorem vd_xor1 (z : Int) : bits .xor .i64 z 1 ≠ z ∧ vi64o (bits .xor .i64 z 1) := by
  have hx : bits .xor .i64 z 1 = IntKind.i64.wrap ((BitVec.ofInt 64 z ^^^ BitVec.ofInt 64 1).toNat : Int) := rfl
  rw [hx, IntKind.wrap_i64]
  unfold vi64o
  have h1 : (BitVec.ofInt 64 z ^^^ BitVec.ofInt 64 1).toNat < 18446744073709551616 := BitVec.isLt _
  have h2 : (BitVec.ofInt 64 z ^^^ BitVec.ofInt 64 1).toNat = (z % 18446744073709551616).toNat ^^^ 1 := by
    rw [BitVec.toNat_xor, BitVec.toNat_ofInt, BitVec.toNat_ofInt]
    rfl
  have h3 : (z % 18446744073709551616).toNat ^^^ 1 ≠ (z % 18446744073709551616).toNat := by
    intro q
    have := congrArg (fun n : Nat => n.testBit 0) q
    simp at this
    omega
  rw [h2] at h1 ⊢
  generalize (z % 18446744073709551616).toNat ^^^ 1 = n at h1 h3 ⊢
  constructor
  · intro _
    exact h3 (by omega)
  · constructor <;> omega
theorem allVd_good {id : K32} {b : List VdV} {n : Nat} (hn : n ≤ 1000000) : allVd (goodL id n ++ b) id n = true := allVd_iff.2 fun i hi => lookF_good hn (by omega)
theorem allVd_good0 {id : K32} {n : Nat} (hn : n ≤ 1000000) : allVd (goodL id n) id n = true := by
  have := allVd_good (id := id) (b := []) hn
  rwa [List.append_nil] at this
theorem allVd_good1 {id : K32} {n : Nat} (hn : n ≤ 1000000) : allVd (goodL id n) id ((n : Int) + 1) = false := by
  refine allVd_bad (i := n) (by omega) ?_
  have := lookF_past (id := id) (b := []) hn (Nat.le_refl n)
  rw [List.append_nil] at this
  rw [this]
  rfl
theorem allVd_good2 {id : K32} {b : List VdV} {n : Nat} (hn : n ≤ 1000000) : allVd (goodL id n ++ b) id ((n : Int) + 1) = lookF b id n := by
  rw [allVd_next (by omega), allVd_good hn, lookF_past hn (Nat.le_refl n)]
  rfl
theorem allVd_first {id : K32} {b : List VdV} {n : Nat} {m : IntV .i64} (h : 0 ≤ m.1) (h1 : m.1 < n) : allVd (⟨id, m, false⟩ :: b) id n = false := by
  obtain ⟨k, hk⟩ := Int.eq_ofNat_of_zero_le h
  refine allVd_bad (i := k) (by omega) ?_
  rw [← hk]
  exact lookF_hit rfl rfl
theorem allVd_below {id : K32} {b : List VdV} {n : Nat} {m : IntV .i64} (h1 : m.1 < n) (hb : allVd b id n = true) : allVd (⟨id, m, false⟩ :: b) id m.1 = true := allVd_iff.2 fun i hi => by
  rw [lookF_miss (by simp only [true_and]; omega)]
  exact allVd_iff.1 hb i (by omega)
theorem allVd_fewer {l : List VdV} {id : K32} (h : allVd l id 3 = true) : allVd l id 2 = true := allVd_iff.2 fun i hi => allVd_iff.1 h i (by omega)
theorem lit_own {α : Type} {enc : α → List Value} {k : Nat} {w : World} {base g : Nat} {e : TypeId} {l : List α} {n : Nat} (hk : ∀ x, (enc x).length = k) (hb : Blk w g e (cellsOf enc l).toArray) (hg : base ≤ g) (hn : l.length = n) (hm : n ≤ 1000) : w.ownsRow base e k (.slice (some ⟨g, 0, none⟩) n n) l.length (cellsOf enc l) :=
  ⟨by rw [cellsOf_len hk], .inr ⟨g, n, _, by rw [hn], hg, hb, by omega, by unfold maxLen; omega, by simp [cellsOf_len hk, hn], by rw [List.take_of_length_le]; simp [cellsOf_len hk]⟩⟩
theorem wf_i8v (z : IntV .i8) : -128 ≤ z.1 ∧ z.1 < 128 := by
  have := z.2
  simp [Lit.wf, IntKind.min, IntKind.max, IntKind.signed, IntKind.bits] at this
  omega
set_option maxRecDepth 20000 in
set_option maxHeartbeats 8000000 in
theorem vdItems_h (HLO : OLookOk) (HAL : OAllOk) (HGO : OGoodOk) (_ : OItemsOk) (A : Option Addr) (c : Nat) (l : List VdV) (t : TxA) (id : K32) (k : IntV .i8) (w : World) (_ : RowIn encVd 34 w w.heap.size A c l) (_ : t.In w w.heap.size) (_ : t.T.ins.length + t.T.nulls.length + t.T.notes.length ≤ 4611686018427387904) (hn : 200 < l.length) :
    Calls Try.prog 6 #[.agg t.cells.toArray, .slice A l.length c, .agg (encK id).toArray, .int .i8 k.1] w fun e w' => e = .returned (.bool true) ∧ Below w.heap.size w w' := by
  have SH := Lib.hid (fun W => vshown_any HLO HAL HGO W)
  have H0 := Lib.hid (show Holds w [(w.heap.size + 1, 27, (encK id).toArray), (w.heap.size, 30, t.cells.toArray)] ((w.alloc (.cells t.cells.toArray 30)).alloc (.cells (encK id).toArray 27)) from by
    have := ((Holds.nil w).box 30 t.cells.toArray).box 27 (encK id).toArray
    simpa only [World.size_alloc, Nat.add_assoc] using this)
  have hd : decide ((200 : Int) < (l.length : Int)) = true := by simp; omega
  clear HLO HAL HGO hn
  go_enter Try.func6, Try.ntmps6
  go_wp2_with fail
  refine (SH.out _).mono ?_
  rintro e w1 ⟨rfl, b1⟩
  have H1 := Lib.hid (H0.out.call b1)
  clear b1
  go_wp2_with fail
  go_ret
  exact ⟨rfl, H1.out.below⟩
set_option maxRecDepth 20000 in
set_option maxHeartbeats 8000000 in
theorem vdItems_big (HLO : OLookOk) (HAL : OAllOk) (HGO : OGoodOk) (HIT : OItemsOk) (A : Option Addr) (c : Nat) (l : List VdV) (t : TxA) (id : K32) (k : IntV .i8) (w : World) (hl : RowIn encVd 34 w w.heap.size A c l) (ht : t.In w w.heap.size) (hsm : t.T.ins.length + t.T.nulls.length + t.T.notes.length ≤ 4611686018427387904) (hn : l.length ≤ 200) (hb : 1000 < t.T.ins.length + t.T.nulls.length + t.T.notes.length) :
    Calls Try.prog 6 #[.agg t.cells.toArray, .slice A l.length c, .agg (encK id).toArray, .int .i8 k.1] w fun e w' => e = .returned (.bool true) ∧ Below w.heap.size w w' := by
  have SH := Lib.hid (fun W => vshown_any HLO HAL HGO W)
  have H0 := Lib.hid (show Holds w [(w.heap.size + 1, 27, (encK id).toArray), (w.heap.size, 30, t.cells.toArray)] ((w.alloc (.cells t.cells.toArray 30)).alloc (.cells (encK id).toArray 27)) from by
    have := ((Holds.nil w).box 30 t.cells.toArray).box 27 (encK id).toArray
    simpa only [World.size_alloc, Nat.add_assoc] using this)
  have hd : decide ((200 : Int) < (l.length : Int)) = false := by simp; omega
  obtain ⟨n, hn2⟩ : ∃ n, t.T.ins.length + t.T.nulls.length + t.T.notes.length = n := ⟨_, rfl⟩
  have hs1 : wrap64 ((t.T.ins.length : Int) + t.T.nulls.length) = (t.T.ins.length : Int) + t.T.nulls.length := by unfold wrap64; omega
  have hs2 : wrap64 ((t.T.ins.length : Int) + t.T.nulls.length + t.T.notes.length) = (n : Int) := by unfold wrap64; omega
  have hit : itemsF t.T = (n : Int) := by unfold itemsF; rw [hs1, hs2]
  have hkr := wf_i8v k
  have hkw : IntKind.i64.wrap k.1 = k.1 := by rw [IntKind.wrap_i64]; omega
  obtain ⟨lo, hlo⟩ : ∃ lo, min k.1 0 = lo := ⟨_, rfl⟩
  have hlr : lo ≤ 0 ∧ -128 ≤ lo := by omega
  have C1 := Lib.hid (fun W (h : Below w.heap.size w W) => hit ▸ HIT t W (ht.on h (Nat.le_refl _)))
  have C2 := Lib.hid (fun W => HGO id (n : Int) W ⟨by omega, by omega⟩)
  have C3 := Lib.hid (fun W (h : RowIn encVd 34 W W.heap.size A c l) => allVd_low (l := l) (id := id) hlr.1 ▸ HAL A c l id lo W h (by omega) ⟨by omega, by omega⟩)
  have hz1 : goodF id lo = [] := by unfold goodF; rw [if_neg (by omega), show lo.toNat = 0 by omega]; rfl
  have hz2 : goodF id 1001 = [] := rfl
  have C4 := Lib.hid (fun W => hz1 ▸ HGO id lo W ⟨by omega, by omega⟩)
  have C5 := Lib.hid (fun W => hz2 ▸ HGO id 1001 W ⟨by omega, by omega⟩)
  obtain ⟨q3, hq3⟩ : ∃ q, allVd l id 3 = q := ⟨_, rfl⟩
  obtain ⟨q2, hq2⟩ : ∃ q, allVd l id 2 = q := ⟨_, rfl⟩
  have C7 := Lib.hid (fun W (h : RowIn encVd 34 W W.heap.size A c l) => hq3 ▸ HAL A c l id 3 W h (by omega) ⟨by omega, by omega⟩)
  have C8 := Lib.hid (fun W (h : RowIn encVd 34 W W.heap.size A c l) => hq2 ▸ HAL A c l id 2 W h (by omega) ⟨by omega, by omega⟩)
  have HQ := Lib.hid (show q3 = true → q2 = true from fun h => hq2 ▸ allVd_fewer (hq3.trans h))
  have HLL := Lib.hid (show ∀ W, Below w.heap.size w W → RowIn encVd 34 W W.heap.size A c l from fun W h => (hl.below h).more h.size)
  have hdn : decide ((1000 : Int) < (n : Int)) = true := decide_eq_true (by omega)
  have hgo : goodF id (n : Int) = [] := by unfold goodF; rw [if_pos (by omega)]
  clear hsm
  rw [hgo] at C2
  clear HLO HAL HGO HIT hl ht hn hit hz1 hz2 hq2 hq3 hkr hlr hn2 hgo hb
  go_enter Try.func6, Try.ntmps6
  go_wp2_with fail
  refine (SH.out _).mono ?_
  rintro e w1 ⟨rfl, b1⟩
  have H1 := Lib.hid (H0.out.call b1)
  clear b1 H0
  go_wp2_with ((with_reducible refine at_load 4 ?_); refine tyTx.wpList_load rfl (.tmp 4) rfl (w.heap.size) 0 rfl t (RowC.of_blk (H1.out.at (x := (w.heap.size, 30, t.cells.toArray)) (by simp))) ?_)
  refine (C1.out _ H1.out.below).mono ?_
  rintro e w2 ⟨rfl, b2⟩
  have H2 := Lib.hid (H1.out.call b2)
  clear b2 H1
  go_wp2_with ((with_reducible refine at_load 6 ?_); refine tyKc.wpList_load rfl (.tmp 6) rfl (w.heap.size + 1) 0 rfl id (RowC.of_blk (H2.out.at (x := (w.heap.size + 1, 27, (encK id).toArray)) (by simp))) ?_)
  refine (C2.out _).mono ?_
  rintro e w3 ⟨A3, c3, rfl, r3, b3⟩
  have H3 := Lib.hid (H2.out.call b3)
  have R3 := Lib.hid r3
  clear b3 r3 H2
  have k1 := TxA.c1 (RowC.of_blk (H3.out.at (x := (w.heap.size, 30, t.cells.toArray)) (by simp)))
  have k4 := TxA.c4 (RowC.of_blk (H3.out.at (x := (w.heap.size, 30, t.cells.toArray)) (by simp)))
  have k5 := TxA.c5 (RowC.of_blk (H3.out.at (x := (w.heap.size, 30, t.cells.toArray)) (by simp)))
  
  go_wp2_with ((with_reducible refine at_loadg 6 ?_); refine tyKc.wpList_load (by rfl) (.tmp 6) rfl (w.heap.size + 1) 0 rfl id (RowC.of_blk (H3.out.at (x := (w.heap.size + 1, 27, (encK id).toArray)) (by simp))) ?_)
  refine (C3.out _ (HLL.out _ H3.out.below)).mono ?_
  rintro e w4 ⟨rfl, bq⟩
  have H4 := Lib.hid (H3.out.call bq)
  clear bq H3
  go_wp2_with ((with_reducible refine at_loadg 6 ?_); refine tyKc.wpList_load (by rfl) (.tmp 6) rfl (w.heap.size + 1) 0 rfl id (RowC.of_blk (H4.out.at (x := (w.heap.size + 1, 27, (encK id).toArray)) (by simp))) ?_)
  refine (C4.out _).mono ?_
  rintro e w5 ⟨A5, c5, rfl, rq, bq⟩
  clear rq
  have H5 := Lib.hid (H4.out.call bq)
  clear bq H4
  go_wp2_with ((with_reducible refine at_loadg 6 ?_); refine tyKc.wpList_load (by rfl) (.tmp 6) rfl (w.heap.size + 1) 0 rfl id (RowC.of_blk (H5.out.at (x := (w.heap.size + 1, 27, (encK id).toArray)) (by simp))) ?_)
  refine (C5.out _).mono ?_
  rintro e w6 ⟨A6, c6, rfl, rq, bq⟩
  clear rq
  have H6 := Lib.hid (H5.out.call bq)
  clear bq H5
  go_wp2_with ((with_reducible refine at_loadg 6 ?_); refine tyKc.wpList_load (by rfl) (.tmp 6) rfl (w.heap.size + 1) 0 rfl id (RowC.of_blk (H6.out.at (x := (w.heap.size + 1, 27, (encK id).toArray)) (by simp))) ?_)
  refine (C7.out _ (HLL.out _ H6.out.below)).mono ?_
  rintro e w7 ⟨rfl, bq⟩
  have H7 := Lib.hid (H6.out.call bq)
  clear bq H6
  cases q3 with
  | false =>
    go_wp2_with fail
    go_ret
    exact ⟨by first | rfl | simp, H7.out.below⟩
  | true =>
    rw [HQ.out rfl] at C8
    go_wp2_with ((with_reducible refine at_loadg 6 ?_); refine tyKc.wpList_load (by rfl) (.tmp 6) rfl (w.heap.size + 1) 0 rfl id (RowC.of_blk (H7.out.at (x := (w.heap.size + 1, 27, (encK id).toArray)) (by simp))) ?_)
    refine (C8.out _ (HLL.out _ H7.out.below)).mono ?_
    rintro e w9 ⟨rfl, bq⟩
    have H9 := Lib.hid (H7.out.call bq)
    clear bq
    go_wp2_with fail
    go_ret
    exact ⟨by first | rfl | simp, H9.out.below⟩
set_option maxRecDepth 20000 in
set_option maxHeartbeats 8000000 in
theorem vdItems_small (HLO : OLookOk) (HAL : OAllOk) (HGO : OGoodOk) (HIT : OItemsOk) (A : Option Addr) (c : Nat) (l : List VdV) (t : TxA) (id : K32) (k : IntV .i8) (w : World) (hl : RowIn encVd 34 w w.heap.size A c l) (ht : t.In w w.heap.size) (hn : l.length ≤ 200) (hb : t.T.ins.length + t.T.nulls.length + t.T.notes.length ≤ 1000) :
    Calls Try.prog 6 #[.agg t.cells.toArray, .slice A l.length c, .agg (encK id).toArray, .int .i8 k.1] w fun e w' => e = .returned (.bool true) ∧ Below w.heap.size w w' := by
  have SH := Lib.hid (fun W => vshown_any HLO HAL HGO W)
  have H0 := Lib.hid (show Holds w [(w.heap.size + 1, 27, (encK id).toArray), (w.heap.size, 30, t.cells.toArray)] ((w.alloc (.cells t.cells.toArray 30)).alloc (.cells (encK id).toArray 27)) from by
    have := ((Holds.nil w).box 30 t.cells.toArray).box 27 (encK id).toArray
    simpa only [World.size_alloc, Nat.add_assoc] using this)
  have hd : decide ((200 : Int) < (l.length : Int)) = false := by simp; omega
  obtain ⟨n, hn2⟩ : ∃ n, t.T.ins.length + t.T.nulls.length + t.T.notes.length = n := ⟨_, rfl⟩
  have hs1 : wrap64 ((t.T.ins.length : Int) + t.T.nulls.length) = (t.T.ins.length : Int) + t.T.nulls.length := by unfold wrap64; omega
  have hs2 : wrap64 ((t.T.ins.length : Int) + t.T.nulls.length + t.T.notes.length) = (n : Int) := by unfold wrap64; omega
  have hit : itemsF t.T = (n : Int) := by unfold itemsF; rw [hs1, hs2]
  have hkr := wf_i8v k
  have hkw : IntKind.i64.wrap k.1 = k.1 := by rw [IntKind.wrap_i64]; omega
  obtain ⟨lo, hlo⟩ : ∃ lo, min k.1 0 = lo := ⟨_, rfl⟩
  have hlr : lo ≤ 0 ∧ -128 ≤ lo := by omega
  have C1 := Lib.hid (fun W (h : Below w.heap.size w W) => hit ▸ HIT t W (ht.on h (Nat.le_refl _)))
  have C2 := Lib.hid (fun W => HGO id (n : Int) W ⟨by omega, by omega⟩)
  have C3 := Lib.hid (fun W (h : RowIn encVd 34 W W.heap.size A c l) => allVd_low (l := l) (id := id) hlr.1 ▸ HAL A c l id lo W h (by omega) ⟨by omega, by omega⟩)
  have hz1 : goodF id lo = [] := by unfold goodF; rw [if_neg (by omega), show lo.toNat = 0 by omega]; rfl
  have hz2 : goodF id 1001 = [] := rfl
  have C4 := Lib.hid (fun W => hz1 ▸ HGO id lo W ⟨by omega, by omega⟩)
  have C5 := Lib.hid (fun W => hz2 ▸ HGO id 1001 W ⟨by omega, by omega⟩)
  obtain ⟨q3, hq3⟩ : ∃ q, allVd l id 3 = q := ⟨_, rfl⟩
  obtain ⟨q2, hq2⟩ : ∃ q, allVd l id 2 = q := ⟨_, rfl⟩
  have C7 := Lib.hid (fun W (h : RowIn encVd 34 W W.heap.size A c l) => hq3 ▸ HAL A c l id 3 W h (by omega) ⟨by omega, by omega⟩)
  have C8 := Lib.hid (fun W (h : RowIn encVd 34 W W.heap.size A c l) => hq2 ▸ HAL A c l id 2 W h (by omega) ⟨by omega, by omega⟩)
  have HQ := Lib.hid (show q3 = true → q2 = true from fun h => hq2 ▸ allVd_fewer (hq3.trans h))
  have HLL := Lib.hid (show ∀ W, Below w.heap.size w W → RowIn encVd 34 W W.heap.size A c l from fun W h => (hl.below h).more h.size)
  have hdn : decide ((1000 : Int) < (n : Int)) = false := decide_eq_false (by omega)
  have hgo : goodF id (n : Int) = goodL id n := by unfold goodF; rw [if_neg (by omega), Int.toNat_natCast]
  have C6 := Lib.hid (fun A' c' W (h : RowIn encVd 34 W W.heap.size A' c' (goodL id n)) => by
    have h6 := HAL A' c' (goodL id n) id (n : Int) W h (by rw [goodL_len]; omega) ⟨by omega, by omega⟩
    rw [allVd_good0 (by omega), goodL_len] at h6
    exact h6)
  rw [hgo] at C2
  clear HLO HAL HGO HIT hl ht hn hit hz1 hz2 hq2 hq3 hkr hlr hn2 hgo hb
  go_enter Try.func6, Try.ntmps6
  go_wp2_with fail
  refine (SH.out _).mono ?_
  rintro e w1 ⟨rfl, b1⟩
  have H1 := Lib.hid (H0.out.call b1)
  clear b1 H0
  go_wp2_with ((with_reducible refine at_load 4 ?_); refine tyTx.wpList_load rfl (.tmp 4) rfl (w.heap.size) 0 rfl t (RowC.of_blk (H1.out.at (x := (w.heap.size, 30, t.cells.toArray)) (by simp))) ?_)
  refine (C1.out _ H1.out.below).mono ?_
  rintro e w2 ⟨rfl, b2⟩
  have H2 := Lib.hid (H1.out.call b2)
  clear b2 H1
  go_wp2_with ((with_reducible refine at_load 6 ?_); refine tyKc.wpList_load rfl (.tmp 6) rfl (w.heap.size + 1) 0 rfl id (RowC.of_blk (H2.out.at (x := (w.heap.size + 1, 27, (encK id).toArray)) (by simp))) ?_)
  refine (C2.out _).mono ?_
  rintro e w3 ⟨A3, c3, rfl, r3, b3⟩
  have H3 := Lib.hid (H2.out.call b3)
  have R3 := Lib.hid r3
  clear b3 r3 H2
  have k1 := TxA.c1 (RowC.of_blk (H3.out.at (x := (w.heap.size, 30, t.cells.toArray)) (by simp)))
  have k4 := TxA.c4 (RowC.of_blk (H3.out.at (x := (w.heap.size, 30, t.cells.toArray)) (by simp)))
  have k5 := TxA.c5 (RowC.of_blk (H3.out.at (x := (w.heap.size, 30, t.cells.toArray)) (by simp)))
  rw [goodL_len]
  go_wp2_with ((with_reducible refine at_loadg 6 ?_); refine tyKc.wpList_load (by rfl) (.tmp 6) rfl (w.heap.size + 1) 0 rfl id (RowC.of_blk (H3.out.at (x := (w.heap.size + 1, 27, (encK id).toArray)) (by simp))) ?_)
  refine (C3.out _ (HLL.out _ H3.out.below)).mono ?_
  rintro e w4 ⟨rfl, bq⟩
  have R4 := Lib.hid ((R3.out.below bq).more bq.size)
  clear R3
  have H4 := Lib.hid (H3.out.call bq)
  clear bq H3
  go_wp2_with ((with_reducible refine at_loadg 6 ?_); refine tyKc.wpList_load (by rfl) (.tmp 6) rfl (w.heap.size + 1) 0 rfl id (RowC.of_blk (H4.out.at (x := (w.heap.size + 1, 27, (encK id).toArray)) (by simp))) ?_)
  refine (C4.out _).mono ?_
  rintro e w5 ⟨A5, c5, rfl, rq, bq⟩
  have R5 := Lib.hid ((R4.out.below bq).more bq.size)
  clear rq R4
  have H5 := Lib.hid (H4.out.call bq)
  clear bq H4
  go_wp2_with ((with_reducible refine at_loadg 6 ?_); refine tyKc.wpList_load (by rfl) (.tmp 6) rfl (w.heap.size + 1) 0 rfl id (RowC.of_blk (H5.out.at (x := (w.heap.size + 1, 27, (encK id).toArray)) (by simp))) ?_)
  refine (C5.out _).mono ?_
  rintro e w6 ⟨A6, c6, rfl, rq, bq⟩
  have R6 := Lib.hid ((R5.out.below bq).more bq.size)
  clear rq R5
  have H6 := Lib.hid (H5.out.call bq)
  clear bq H5
  go_wp2_with ((with_reducible refine at_loadg 6 ?_); refine tyKc.wpList_load (by rfl) (.tmp 6) rfl (w.heap.size + 1) 0 rfl id (RowC.of_blk (H6.out.at (x := (w.heap.size + 1, 27, (encK id).toArray)) (by simp))) ?_)
  refine (C6.out _ _ _ R6.out).mono ?_
  rintro e w8 ⟨rfl, bq⟩
  have H8 := Lib.hid (H6.out.call bq)
  clear bq H6
  go_wp2_with ((with_reducible refine at_loadg 6 ?_); refine tyKc.wpList_load (by rfl) (.tmp 6) rfl (w.heap.size + 1) 0 rfl id (RowC.of_blk (H8.out.at (x := (w.heap.size + 1, 27, (encK id).toArray)) (by simp))) ?_)
  refine (C7.out _ (HLL.out _ H8.out.below)).mono ?_
  rintro e w7 ⟨rfl, bq⟩
  have H7 := Lib.hid (H8.out.call bq)
  clear bq H8
  cases q3 with
  | false =>
    go_wp2_with fail
    go_ret
    exact ⟨by first | rfl | simp, H7.out.below⟩
  | true =>
    rw [HQ.out rfl] at C8
    go_wp2_with ((with_reducible refine at_loadg 6 ?_); refine tyKc.wpList_load (by rfl) (.tmp 6) rfl (w.heap.size + 1) 0 rfl id (RowC.of_blk (H7.out.at (x := (w.heap.size + 1, 27, (encK id).toArray)) (by simp))) ?_)
    refine (C8.out _ (HLL.out _ H7.out.below)).mono ?_
    rintro e w9 ⟨rfl, bq⟩
    have H9 := Lib.hid (H7.out.call bq)
    clear bq
    go_wp2_with fail
    go_ret
    exact ⟨by first | rfl | simp, H9.out.below⟩
set_option maxRecDepth 20000 in
set_option maxHeartbeats 8000000 in
theorem vdItems_walk (HLO : OLookOk) (HAL : OAllOk) (HGO : OGoodOk) (HIT : OItemsOk) (A : Option Addr) (c : Nat) (l : List VdV) (t : TxA) (id : K32) (k : IntV .i8) (w : World) (hl : RowIn encVd 34 w w.heap.size A c l) (ht : t.In w w.heap.size) (hsm : t.T.ins.length + t.T.nulls.length + t.T.notes.length ≤ 4611686018427387904) :
    Calls Try.prog 6 #[.agg t.cells.toArray, .slice A l.length c, .agg (encK id).toArray, .int .i8 k.1] w fun e w' => e = .returned (.bool true) ∧ Below w.heap.size w w' := by
  by_cases h : 200 < l.length
  · exact vdItems_h HLO HAL HGO HIT A c l t id k w hl ht hsm h
  · by_cases hb : 1000 < t.T.ins.length + t.T.nulls.length + t.T.notes.length
    · exact vdItems_big HLO HAL HGO HIT A c l t id k w hl ht hsm (by omega) hb
    · exact vdItems_small HLO HAL HGO HIT A c l t id k w hl ht (by omega) (by omega)
end Go.Proofs.Ythepiegaoekccaa
