/- Decode: its seven steps tried one by one, through a slice of closures. Written by genDe.py. -/
import Derived.Test.YthpnmmilioonhaaDoorBkM
namespace Go.Proofs.YthpnmmilioonhaaDoor
open Go.RowKit
/-- what lies there while Decode is at work -/
structure DI (w w' : World) (r : List UInt8) (bk : BkA) (z n : Nat) : Prop where
  below : Below w.heap.size w w'
  s : Sb w' w.heap.size r
  z0 : Blk w' (w.heap.size + 1) 27 bZ.cells.toArray
  b : Bb w' (w.heap.size + 1 + 1) bk
  c : Nb w' (w.heap.size + 1 + 1 + 1) z
  n : Nb w' (w.heap.size + 1 + 1 + 1 + 1) n
  f : Blk w' (w.heap.size + 1 + 1 + 1 + 1 + 1) 56 #[.func (.func 39) #[] #[.pointer (some ⟨w.heap.size + 1 + 1, 0, none⟩), .pointer (some ⟨w.heap.size, 0, none⟩)], .func (.func 42) #[] #[.pointer (some ⟨w.heap.size + 1 + 1, 0, none⟩), .pointer (some ⟨w.heap.size, 0, none⟩)], .func (.func 43) #[] #[.pointer (some ⟨w.heap.size + 1 + 1 + 1, 0, none⟩), .pointer (some ⟨w.heap.size, 0, none⟩)], .func (.func 46) #[] #[.pointer (some ⟨w.heap.size + 1 + 1 + 1 + 1, 0, none⟩), .pointer (some ⟨w.heap.size, 0, none⟩)], .func (.func 48) #[] #[.pointer (some ⟨w.heap.size + 1 + 1 + 1 + 1, 0, none⟩)], .func (.func 49) #[] #[.pointer (some ⟨w.heap.size + 1 + 1, 0, none⟩), .pointer (some ⟨w.heap.size, 0, none⟩), .pointer (some ⟨w.heap.size + 1 + 1 + 1 + 1, 0, none⟩)], .func (.func 51) #[] #[.pointer (some ⟨w.heap.size, 0, none⟩)]]
theorem DI.init (w : World) (l : List UInt8) (cz : Array Value) (hz : cz = bZ.cells.toArray) : DI w ((((((w.alloc (.cells #[.string ⟨l.toArray⟩] 9)).alloc (.cells cz 27)).alloc (.cells cz 27)).alloc (.cells #[.int .u64 0] 49)).alloc (.cells #[.int .u64 0] 49)).alloc (.cells #[.func (.func 39) #[] #[.pointer (some ⟨w.heap.size + 1 + 1, 0, none⟩), .pointer (some ⟨w.heap.size, 0, none⟩)], .func (.func 42) #[] #[.pointer (some ⟨w.heap.size + 1 + 1, 0, none⟩), .pointer (some ⟨w.heap.size, 0, none⟩)], .func (.func 43) #[] #[.pointer (some ⟨w.heap.size + 1 + 1 + 1, 0, none⟩), .pointer (some ⟨w.heap.size, 0, none⟩)], .func (.func 46) #[] #[.pointer (some ⟨w.heap.size + 1 + 1 + 1 + 1, 0, none⟩), .pointer (some ⟨w.heap.size, 0, none⟩)], .func (.func 48) #[] #[.pointer (some ⟨w.heap.size + 1 + 1 + 1 + 1, 0, none⟩)], .func (.func 49) #[] #[.pointer (some ⟨w.heap.size + 1 + 1, 0, none⟩), .pointer (some ⟨w.heap.size, 0, none⟩), .pointer (some ⟨w.heap.size + 1 + 1 + 1 + 1, 0, none⟩)], .func (.func 51) #[] #[.pointer (some ⟨w.heap.size, 0, none⟩)]] 56)) l bZ 0 0 := by
  subst hz
  have h0 := ((((((Blk.new w 9 #[.string ⟨l.toArray⟩]).alloc (.cells bZ.cells.toArray 27)).alloc (.cells bZ.cells.toArray 27)).alloc (.cells #[.int .u64 0] 49)).alloc (.cells #[.int .u64 0] 49)).alloc (.cells #[.func (.func 39) #[] #[.pointer (some ⟨w.heap.size + 1 + 1, 0, none⟩), .pointer (some ⟨w.heap.size, 0, none⟩)], .func (.func 42) #[] #[.pointer (some ⟨w.heap.size + 1 + 1, 0, none⟩), .pointer (some ⟨w.heap.size, 0, none⟩)], .func (.func 43) #[] #[.pointer (some ⟨w.heap.size + 1 + 1 + 1, 0, none⟩), .pointer (some ⟨w.heap.size, 0, none⟩)], .func (.func 46) #[] #[.pointer (some ⟨w.heap.size + 1 + 1 + 1 + 1, 0, none⟩), .pointer (some ⟨w.heap.size, 0, none⟩)], .func (.func 48) #[] #[.pointer (some ⟨w.heap.size + 1 + 1 + 1 + 1, 0, none⟩)], .func (.func 49) #[] #[.pointer (some ⟨w.heap.size + 1 + 1, 0, none⟩), .pointer (some ⟨w.heap.size, 0, none⟩), .pointer (some ⟨w.heap.size + 1 + 1 + 1 + 1, 0, none⟩)], .func (.func 51) #[] #[.pointer (some ⟨w.heap.size, 0, none⟩)]] 56))
  have h1 := (((((Blk.new (w.alloc (.cells #[.string ⟨l.toArray⟩] 9)) 27 bZ.cells.toArray).alloc (.cells bZ.cells.toArray 27)).alloc (.cells #[.int .u64 0] 49)).alloc (.cells #[.int .u64 0] 49)).alloc (.cells #[.func (.func 39) #[] #[.pointer (some ⟨w.heap.size + 1 + 1, 0, none⟩), .pointer (some ⟨w.heap.size, 0, none⟩)], .func (.func 42) #[] #[.pointer (some ⟨w.heap.size + 1 + 1, 0, none⟩), .pointer (some ⟨w.heap.size, 0, none⟩)], .func (.func 43) #[] #[.pointer (some ⟨w.heap.size + 1 + 1 + 1, 0, none⟩), .pointer (some ⟨w.heap.size, 0, none⟩)], .func (.func 46) #[] #[.pointer (some ⟨w.heap.size + 1 + 1 + 1 + 1, 0, none⟩), .pointer (some ⟨w.heap.size, 0, none⟩)], .func (.func 48) #[] #[.pointer (some ⟨w.heap.size + 1 + 1 + 1 + 1, 0, none⟩)], .func (.func 49) #[] #[.pointer (some ⟨w.heap.size + 1 + 1, 0, none⟩), .pointer (some ⟨w.heap.size, 0, none⟩), .pointer (some ⟨w.heap.size + 1 + 1 + 1 + 1, 0, none⟩)], .func (.func 51) #[] #[.pointer (some ⟨w.heap.size, 0, none⟩)]] 56))
  have h2 := ((((Blk.new ((w.alloc (.cells #[.string ⟨l.toArray⟩] 9)).alloc (.cells bZ.cells.toArray 27)) 27 bZ.cells.toArray).alloc (.cells #[.int .u64 0] 49)).alloc (.cells #[.int .u64 0] 49)).alloc (.cells #[.func (.func 39) #[] #[.pointer (some ⟨w.heap.size + 1 + 1, 0, none⟩), .pointer (some ⟨w.heap.size, 0, none⟩)], .func (.func 42) #[] #[.pointer (some ⟨w.heap.size + 1 + 1, 0, none⟩), .pointer (some ⟨w.heap.size, 0, none⟩)], .func (.func 43) #[] #[.pointer (some ⟨w.heap.size + 1 + 1 + 1, 0, none⟩), .pointer (some ⟨w.heap.size, 0, none⟩)], .func (.func 46) #[] #[.pointer (some ⟨w.heap.size + 1 + 1 + 1 + 1, 0, none⟩), .pointer (some ⟨w.heap.size, 0, none⟩)], .func (.func 48) #[] #[.pointer (some ⟨w.heap.size + 1 + 1 + 1 + 1, 0, none⟩)], .func (.func 49) #[] #[.pointer (some ⟨w.heap.size + 1 + 1, 0, none⟩), .pointer (some ⟨w.heap.size, 0, none⟩), .pointer (some ⟨w.heap.size + 1 + 1 + 1 + 1, 0, none⟩)], .func (.func 51) #[] #[.pointer (some ⟨w.heap.size, 0, none⟩)]] 56))
  have h3 := (((Blk.new (((w.alloc (.cells #[.string ⟨l.toArray⟩] 9)).alloc (.cells bZ.cells.toArray 27)).alloc (.cells bZ.cells.toArray 27)) 49 #[.int .u64 0]).alloc (.cells #[.int .u64 0] 49)).alloc (.cells #[.func (.func 39) #[] #[.pointer (some ⟨w.heap.size + 1 + 1, 0, none⟩), .pointer (some ⟨w.heap.size, 0, none⟩)], .func (.func 42) #[] #[.pointer (some ⟨w.heap.size + 1 + 1, 0, none⟩), .pointer (some ⟨w.heap.size, 0, none⟩)], .func (.func 43) #[] #[.pointer (some ⟨w.heap.size + 1 + 1 + 1, 0, none⟩), .pointer (some ⟨w.heap.size, 0, none⟩)], .func (.func 46) #[] #[.pointer (some ⟨w.heap.size + 1 + 1 + 1 + 1, 0, none⟩), .pointer (some ⟨w.heap.size, 0, none⟩)], .func (.func 48) #[] #[.pointer (some ⟨w.heap.size + 1 + 1 + 1 + 1, 0, none⟩)], .func (.func 49) #[] #[.pointer (some ⟨w.heap.size + 1 + 1, 0, none⟩), .pointer (some ⟨w.heap.size, 0, none⟩), .pointer (some ⟨w.heap.size + 1 + 1 + 1 + 1, 0, none⟩)], .func (.func 51) #[] #[.pointer (some ⟨w.heap.size, 0, none⟩)]] 56))
  have h4 := ((Blk.new ((((w.alloc (.cells #[.string ⟨l.toArray⟩] 9)).alloc (.cells bZ.cells.toArray 27)).alloc (.cells bZ.cells.toArray 27)).alloc (.cells #[.int .u64 0] 49)) 49 #[.int .u64 0]).alloc (.cells #[.func (.func 39) #[] #[.pointer (some ⟨w.heap.size + 1 + 1, 0, none⟩), .pointer (some ⟨w.heap.size, 0, none⟩)], .func (.func 42) #[] #[.pointer (some ⟨w.heap.size + 1 + 1, 0, none⟩), .pointer (some ⟨w.heap.size, 0, none⟩)], .func (.func 43) #[] #[.pointer (some ⟨w.heap.size + 1 + 1 + 1, 0, none⟩), .pointer (some ⟨w.heap.size, 0, none⟩)], .func (.func 46) #[] #[.pointer (some ⟨w.heap.size + 1 + 1 + 1 + 1, 0, none⟩), .pointer (some ⟨w.heap.size, 0, none⟩)], .func (.func 48) #[] #[.pointer (some ⟨w.heap.size + 1 + 1 + 1 + 1, 0, none⟩)], .func (.func 49) #[] #[.pointer (some ⟨w.heap.size + 1 + 1, 0, none⟩), .pointer (some ⟨w.heap.size, 0, none⟩), .pointer (some ⟨w.heap.size + 1 + 1 + 1 + 1, 0, none⟩)], .func (.func 51) #[] #[.pointer (some ⟨w.heap.size, 0, none⟩)]] 56))
  have h5 := (Blk.new (((((w.alloc (.cells #[.string ⟨l.toArray⟩] 9)).alloc (.cells bZ.cells.toArray 27)).alloc (.cells bZ.cells.toArray 27)).alloc (.cells #[.int .u64 0] 49)).alloc (.cells #[.int .u64 0] 49)) 56 #[.func (.func 39) #[] #[.pointer (some ⟨w.heap.size + 1 + 1, 0, none⟩), .pointer (some ⟨w.heap.size, 0, none⟩)], .func (.func 42) #[] #[.pointer (some ⟨w.heap.size + 1 + 1, 0, none⟩), .pointer (some ⟨w.heap.size, 0, none⟩)], .func (.func 43) #[] #[.pointer (some ⟨w.heap.size + 1 + 1 + 1, 0, none⟩), .pointer (some ⟨w.heap.size, 0, none⟩)], .func (.func 46) #[] #[.pointer (some ⟨w.heap.size + 1 + 1 + 1 + 1, 0, none⟩), .pointer (some ⟨w.heap.size, 0, none⟩)], .func (.func 48) #[] #[.pointer (some ⟨w.heap.size + 1 + 1 + 1 + 1, 0, none⟩)], .func (.func 49) #[] #[.pointer (some ⟨w.heap.size + 1 + 1, 0, none⟩), .pointer (some ⟨w.heap.size, 0, none⟩), .pointer (some ⟨w.heap.size + 1 + 1 + 1 + 1, 0, none⟩)], .func (.func 51) #[] #[.pointer (some ⟨w.heap.size, 0, none⟩)]])
  simp only [World.size_alloc] at h1 h2 h3 h4 h5
  exact ⟨((((((Below.refl _ w).alloc (Nat.le_refl _) _).alloc (by simp) _).alloc (by simp; omega) _).alloc (by simp; omega) _).alloc (by simp; omega) _).alloc (by simp; omega) _, h0, h1, h2, h3, h4, h5⟩
section
variable {w w1 w2 : World} {r r' : List UInt8} {bk b' : BkA} {z z' n n' : Nat}
theorem DI.key (h : DI w w1 r bk z n) (p : PastL [w.heap.size, w.heap.size + 1 + 1] w1 w2) (hs : Sb w2 w.heap.size r') (hb : Bb w2 (w.heap.size + 1 + 1) b') : DI w w2 r' b' z n :=
  ⟨h.below.trans (p.below (by simp <;> omega) h.below.size), hs, p.blk h.z0 (by simp <;> omega), hb, p.blk h.c (by simp <;> omega), p.blk h.n (by simp <;> omega), p.blk h.f (by simp <;> omega)⟩
theorem DI.non (h : DI w w1 r bk z n) (p : PastL [w.heap.size, w.heap.size + 1 + 1 + 1] w1 w2) (hs : Sb w2 w.heap.size r') (hn : Nb w2 (w.heap.size + 1 + 1 + 1) z') : DI w w2 r' bk z' n :=
  ⟨h.below.trans (p.below (by simp <;> omega) h.below.size), hs, p.blk h.z0 (by simp <;> omega), p.blk h.b (by simp <;> omega), hn, p.blk h.n (by simp <;> omega), p.blk h.f (by simp <;> omega)⟩
theorem DI.num (h : DI w w1 r bk z n) (p : PastL [w.heap.size, w.heap.size + 1 + 1 + 1 + 1] w1 w2) (hs : Sb w2 w.heap.size r') (hn : Nb w2 (w.heap.size + 1 + 1 + 1 + 1) n') : DI w w2 r' bk z n' :=
  ⟨h.below.trans (p.below (by simp <;> omega) h.below.size), hs, p.blk h.z0 (by simp <;> omega), p.blk h.b (by simp <;> omega), p.blk h.c (by simp <;> omega), hn, p.blk h.f (by simp <;> omega)⟩
/-- what is left of it at an ending -/
structure DE (w w' : World) : Prop where
  below : Below w.heap.size w w'
  z0 : Blk w' (w.heap.size + 1) 27 bZ.cells.toArray
theorem DI.here (h : DI w w1 r bk z n) : DE w w1 := ⟨h.below, h.z0⟩
theorem DI.past {g : Nat} (h : DI w w1 r bk z n) (p : PastL [w.heap.size, g] w1 w2) (hg : w.heap.size + 1 < g) : DE w w2 :=
  ⟨h.below.trans (p.below (by simp <;> omega) h.below.size), p.blk h.z0 (by simp <;> omega)⟩
end
/-- how the steps end -/
def EndTD (w : World) (x : Except Int BlockV) (e : Ending) (w' : World) : Prop :=
  DE w w' ∧ match x with
  | .error er => er ≠ 0 ∧ e = .returned (.int .i64 er)
  | .ok B => e = .returned (.int .i64 0) ∧ ∃ (b' : BkA) (z : Nat), Nb w' (w.heap.size + 1 + 1 + 1) z ∧ Bb w' (w.heap.size + 1 + 1) b' ∧ BO w' b' ∧ z < 4294967296 ∧ ({ b' with nonce := toU32 z } : BkA).B = B
theorem numB_may {r r' : List UInt8} {n : Nat} (h : readF r = (n, r', 0)) : numB r = if mayI n = 0 then .ok (n, r') else .error (mayI n) := by
  unfold numB mayI
  rw [h]
  by_cases h0 : n = 0
  · simp [h0]
  · by_cases h1 : 30 < n <;> simp [h0, h1]
theorem may_zero {n : Nat} (h : mayI n = 0) : 0 < n ∧ n ≤ 30 := by
  unfold mayI at h
  by_cases h0 : n = 0
  · rw [if_pos h0] at h; omega
  · rw [if_neg h0] at h
    by_cases h1 : 30 < n
    · rw [if_pos h1] at h; omega
    · omega
set_option maxRecDepth 20000 in
set_option maxHeartbeats 8000000 in
theorem tryD_r (l : List UInt8) (hs : l.length ≤ 1000000) (w wI : World) (D : DI w wI l bZ 0 0) :
    Calls Tryd.prog 20 #[.slice (some ⟨w.heap.size + 1 + 1 + 1 + 1 + 1, 0, none⟩) 7 7] wI (EndTD w (decBlk l)) := by
  obtain ⟨Y, hY⟩ : ∃ Y, decBlk l = Y := ⟨_, rfl⟩
  rw [hY]
  have HY := Lib.hid hY
  have D0 := Lib.hid D
  clear hY D
  go_enter Tryd.func20, Tryd.ntmps20
  go_wp2_with fail
  refine wp_loop_rounds 8 ?_
  rw [rounds_succ]
  have cs := D0.out.f.cell 0
  go_wp2_with fail
  clear cs
  have hc := step1_r l hs (bZ) _ _ (by omega) _ D0.out.s D0.out.b
  cases hq : keyR l with
  | error er =>
    rw [hq] at hc
    have he0 : er ≠ 0 := by rcases errs_key _ er hq with h | h | h <;> omega
    have hd : (er == 0) = false := beq_eq_false_iff_ne.mpr he0
    have HE := Lib.hid (show Y = .error er by rw [← HY.out]; simp only [decBlk, blkR, mapR, thenR, hq])
    have HC := Lib.hid hc
    have H0 := Lib.hid he0
    clear hc he0 hq
    refine HC.out.mono ?_
    rintro e w1 ⟨p1, h1⟩
    obtain rfl : e = .returned (.int .i64 er) := h1
    have DX := Lib.hid (D0.out.past p1 (by omega))
    clear p1
    go_wp2_with fail
    go_ret
    rw [HE.out]
    exact ⟨DX.out, H0.out, rfl⟩
  | ok x =>
    obtain ⟨k0, r1⟩ := x
    have HQ0 := Lib.hid hq
    have HL1 := Lib.hid (rest_len good_key hq hs)
    rw [hq] at hc
    have HC := Lib.hid hc
    clear hc hq
    refine HC.out.mono ?_
    rintro e w1 ⟨p1, h1⟩
    obtain ⟨rfl, s1, b1⟩ := (h1 : _ ∧ _ ∧ _)
    have D1 := Lib.hid (D0.out.key p1 s1 b1)
    clear p1 s1 b1 HC D0
    go_wp2_with fail
    rw [rounds_succ]
    have cs := D1.out.f.cell 1
    go_wp2_with fail
    clear cs
    have hc := step2_r r1 HL1.out ({ bZ with prev := k0 }) _ _ (by omega) _ D1.out.s D1.out.b
    cases hq : keyR r1 with
    | error er =>
      rw [hq] at hc
      have he0 : er ≠ 0 := by rcases errs_key _ er hq with h | h | h <;> omega
      have hd : (er == 0) = false := beq_eq_false_iff_ne.mpr he0
      have HE := Lib.hid (show Y = .error er by rw [← HY.out]; simp only [decBlk, blkR, mapR, thenR, HQ0.out, hq])
      have HC := Lib.hid hc
      have H0 := Lib.hid he0
      clear hc he0 hq
      refine HC.out.mono ?_
      rintro e w1 ⟨p1, h1⟩
      obtain rfl : e = .returned (.int .i64 er) := h1
      have DX := Lib.hid (D1.out.past p1 (by omega))
      clear p1
      go_wp2_with fail
      go_ret
      rw [HE.out]
      exact ⟨DX.out, H0.out, rfl⟩
    | ok x =>
      obtain ⟨k1, r2⟩ := x
      have HQ1 := Lib.hid hq
      have HL2 := Lib.hid (rest_len good_key hq HL1.out)
      rw [hq] at hc
      have HC := Lib.hid hc
      clear hc hq
      refine HC.out.mono ?_
      rintro e w2 ⟨p1, h1⟩
      obtain ⟨rfl, s1, b1⟩ := (h1 : _ ∧ _ ∧ _)
      have D2 := Lib.hid (D1.out.key p1 s1 b1)
      clear p1 s1 b1 HC D1
      go_wp2_with fail
      rw [rounds_succ]
      have cs := D2.out.f.cell 2
      go_wp2_with fail
      clear cs
      have hc := step3_r r2 HL2.out 0 _ _ (by omega) _ D2.out.s D2.out.c
      cases hq : getR 4 r2 with
      | error er =>
        rw [hq] at hc
        have he0 : er ≠ 0 := by have := errs_get 4 r2 er hq; omega
        have hd : (er == 0) = false := beq_eq_false_iff_ne.mpr he0
        have HE := Lib.hid (show Y = .error er by rw [← HY.out]; simp only [decBlk, blkR, mapR, thenR, u32R, HQ0.out, HQ1.out, hq])
        have HC := Lib.hid hc
        have H0 := Lib.hid he0
        clear hc he0 hq
        refine HC.out.mono ?_
        rintro e w1 ⟨p1, h1⟩
        obtain rfl : e = .returned (.int .i64 er) := h1
        have DX := Lib.hid (D2.out.past p1 (by omega))
        clear p1
        go_wp2_with fail
        go_ret
        rw [HE.out]
        exact ⟨DX.out, H0.out, rfl⟩
      | ok x =>
        obtain ⟨z, r3⟩ := x
        have HQ2 := Lib.hid hq
        have HL3 := Lib.hid (rest_len (good_get 4) hq HL2.out)
        have HZ := Lib.hid (show z < 4294967296 from ok_of (good_get 4) hq)
        rw [hq] at hc
        have HC := Lib.hid hc
        clear hc hq
        refine HC.out.mono ?_
        rintro e w3 ⟨p1, h1⟩
        obtain ⟨rfl, s1, b1⟩ := (h1 : _ ∧ _ ∧ _)
        have D3 := Lib.hid (D2.out.non p1 s1 b1)
        clear p1 s1 b1 HC D2
        go_wp2_with fail
        rw [rounds_succ]
        have cs := D3.out.f.cell 3
        go_wp2_with fail
        clear cs
        have hc := step4_r r3 HL3.out 0 _ _ (by omega) _ D3.out.s D3.out.n
        rcases readR_f r3 with ⟨er, hne, hf, hg⟩ | ⟨n, r4, hf, hg, hn64⟩
        · rw [hg] at hc
          have hq : numB r3 = .error er := by unfold numB; rw [hf]; exact if_neg hne
          have he0 : er ≠ 0 := hne
          have hd : (er == 0) = false := beq_eq_false_iff_ne.mpr he0
          have HE := Lib.hid (show Y = .error er by rw [← HY.out]; simp only [decBlk, blkR, mapR, thenR, txsR, u32R, HQ0.out, HQ1.out, HQ2.out, hq])
          have HC := Lib.hid hc
          have H0 := Lib.hid he0
          clear hc he0 hq hf hg hne
          refine HC.out.mono ?_
          rintro e w1 ⟨p1, h1⟩
          obtain rfl : e = .returned (.int .i64 er) := h1
          have DX := Lib.hid (D3.out.past p1 (by omega))
          clear p1
          go_wp2_with fail
          go_ret
          rw [HE.out]
          exact ⟨DX.out, H0.out, rfl⟩
        · rw [hg] at hc
          have HC := Lib.hid hc
          have HNB := Lib.hid (numB_may hf)
          have HN64 := Lib.hid hn64
          clear hc hf hg hn64
          refine HC.out.mono ?_
          rintro e w4 ⟨p1, h1⟩
          obtain ⟨rfl, s1, b1⟩ := (h1 : _ ∧ _ ∧ _)
          have D4 := Lib.hid (D3.out.num p1 s1 b1)
          clear p1 s1 b1 HC D3
          go_wp2_with fail
          rw [rounds_succ]
          have cs := D4.out.f.cell 4
          go_wp2_with fail
          clear cs
          have hc := step5_r _ n (by have := HN64.out; omega) _ D4.out.n
          obtain ⟨q, hq5⟩ : ∃ q, mayI n = q := ⟨_, rfl⟩
          rw [hq5] at hc
          by_cases hq0 : q = 0
          · subst hq0
            have HC := Lib.hid hc
            have HM := Lib.hid (may_zero hq5)
            have HQ3 := Lib.hid (show numB r3 = .ok (n, r4) by rw [HNB.out, if_pos hq5])
            have HL4 := Lib.hid (rest_len good_numB HQ3.out HL3.out)
            clear hc hq5
            refine HC.out.mono ?_
            rintro e w5 ⟨rfl, rfl⟩
            clear HC
            go_wp2_with fail
            rw [rounds_succ]
            have cs := D4.out.f.cell 5
            go_wp2_with fail
            clear cs
            have hc := step6_r n HM.out.2 r4 HL4.out ({ bZ with prev := k0, root := k1 }) _ _ _ (by omega) _ D4.out.s D4.out.b D4.out.n
            have HYX := Lib.hid (show Y = blkX k0 k1 (toU32 z) (listR txR n r4) by rw [← HY.out]; simp only [decBlk, blkR, mapR, thenR, txsR, u32R, HQ0.out, HQ1.out, HQ2.out, HQ3.out]; cases listR txR n r4 <;> rfl)
            cases hq : listR txR n r4 with
            | error er =>
              rw [hq] at hc
              have he0 : er ≠ 0 := by rcases errs_tx.list n r4 er hq with h | h | h <;> omega
              have hd : (er == 0) = false := beq_eq_false_iff_ne.mpr he0
              have HE := Lib.hid (show Y = .error er by rw [HYX.out, hq]; rfl)
              have HC := Lib.hid hc
              have H0 := Lib.hid he0
              clear hc he0 hq
              refine HC.out.mono ?_
              rintro e w1 ⟨p1, h1⟩
              obtain rfl : e = .returned (.int .i64 er) := h1
              have DX := Lib.hid (D4.out.past p1 (by omega))
              clear p1
              go_wp2_with fail
              go_ret
              rw [HE.out]
              exact ⟨DX.out, H0.out, rfl⟩
            | ok x =>
              obtain ⟨L, r5⟩ := x
              have HYL := Lib.hid (show Y = if r5 = [] then .ok ⟨k0, k1, toU32 z, L⟩ else .error 50 by rw [HYX.out, hq]; rfl)
              rw [hq] at hc
              have HC := Lib.hid hc
              clear hc hq
              refine HC.out.mono ?_
              rintro e w6 ⟨p1, h1⟩
              obtain ⟨rfl, s1, b', hb', k1', o1⟩ := (h1 : _ ∧ _ ∧ _)
              have D6 := Lib.hid (D4.out.key p1 s1 k1')
              have HB := Lib.hid hb'
              have OB := Lib.hid o1
              clear p1 s1 k1' HC D4 hb' o1
              go_wp2_with fail
              rw [rounds_succ]
              have cs := D6.out.f.cell 6
              go_wp2_with fail
              clear cs
              have hc := step7_r r5 _ _ D6.out.s
              by_cases h5 : r5 = []
              · rw [if_pos h5] at hc
                have HE := Lib.hid (show Y = .ok ⟨k0, k1, toU32 z, L⟩ by rw [HYL.out, if_pos h5])
                have HC := Lib.hid hc
                clear hc
                refine HC.out.mono ?_
                rintro e w7 ⟨rfl, rfl⟩
                go_wp2_with fail
                rw [rounds_succ]
                go_wp2_with fail
                go_ret
                rw [HE.out]
                refine ⟨D6.out.here, rfl, b', z, D6.out.c, D6.out.b, OB.out, HZ.out, ?_⟩
                have h8 := HB.out
                unfold BkA.B at h8 ⊢
                injection h8 with h9 h10 _ h11
                simp only [h9, h10, h11]
              · rw [if_neg h5] at hc
                have HE := Lib.hid (show Y = .error 50 by rw [HYL.out, if_neg h5])
                have HC := Lib.hid hc
                clear hc
                refine HC.out.mono ?_
                rintro e w7 ⟨rfl, rfl⟩
                go_wp2_with fail
                go_ret
                rw [HE.out]
                exact ⟨D6.out.here, by decide, rfl⟩
          · have HQ3 := Lib.hid (show numB r3 = .error q by rw [HNB.out, if_neg (by rw [hq5]; exact hq0), hq5])
            have he0 : q ≠ 0 := hq0
            have hd : (q == 0) = false := beq_eq_false_iff_ne.mpr he0
            have HE := Lib.hid (show Y = .error q by rw [← HY.out]; simp only [decBlk, blkR, mapR, thenR, txsR, u32R, HQ0.out, HQ1.out, HQ2.out, HQ3.out])
            have HC := Lib.hid hc
            have H0 := Lib.hid he0
            clear hc he0 hq5 hq0
            refine HC.out.mono ?_
            rintro e w1 ⟨rfl, rfl⟩
            have DX := Lib.hid D4.out.here
            go_wp2_with fail
            go_ret
            rw [HE.out]
            exact ⟨DX.out, H0.out, rfl⟩
set_option maxRecDepth 20000 in
set_option maxHeartbeats 4000000 in
theorem bDec_r (l : List UInt8) (hs : l.length ≤ 1000000) (w : World) :
    Calls Tryd.prog 19 #[.string ⟨l.toArray⟩] w (EndBD w (decBlk l)) := by
  have D0 := DI.init w l Tryd.zeroCells27 (by kernel_rfl)
  have hc := tryD_r l hs w _ D0
  obtain ⟨Y, hY⟩ : ∃ Y, decBlk l = Y := ⟨_, rfl⟩
  rw [hY] at hc ⊢
  have HC := Lib.hid hc
  clear hY hc D0
  cases Y with
  | error er =>
    go_enter Tryd.func19, Tryd.ntmps19
    go_wp2_with fail
    refine HC.out.mono ?_
    rintro e w1 ⟨dx, h0, rfl⟩
    have hd : (er == 0) = false := beq_eq_false_iff_ne.mpr h0
    have DX := Lib.hid dx
    clear dx HC h0
    go_wp2_with (first
      | ((with_reducible refine at_build 19 ?_); refine wpList_built rfl 27 #[] rfl bZ.cells.toArray (by kernel_rfl) ?_)
      | ((with_reducible refine at_store 2 19 ?_); refine tyBk.wpList_store rfl (.tmp 2) (.tmp 19) rfl rfl (w.heap.size + 1) bZ rfl rfl 27 _ DX.out.z0 rfl ?_; intro wz oz bz))
    refine bodyPost_ret (results_cell_tmp1 rfl _ _ (w.heap.size + 1) 27 _ (0, 0) _ rfl bz Tryd.underlying27 rfl (by rw [tyBk.arr]; kernel_rfl)) rfl ?_
    exact EndBD.err (DX.out.below.trans (oz.below (by simp))) rfl
  | ok B =>
    go_enter Tryd.func19, Tryd.ntmps19
    go_wp2_with fail
    refine HC.out.mono ?_
    rintro e w1 ⟨dx, rfl, b, z, hz, hb, ho, h32, hB⟩
    have cz := hz.cell 0
    have HV := Lib.hid (show Value.int .u32 ((z : Int) % 4294967296) = .int .u32 (toU32 z).1 from congrArg _ (by show (z : Int) % 4294967296 = ((z % 4294967296 : Nat) : Int); omega))
    have DX := Lib.hid dx
    have KB := Lib.hid hb
    have OB := Lib.hid (show BO w1 ({ b with nonce := toU32 z } : BkA) from ⟨ho.row, ho.each⟩)
    have HB := Lib.hid hB
    clear dx HC hz hb ho h32 hB
    go_wp2_with (first
      | ((with_reducible refine at_store 23 22 ?_); refine wpList_store_cell rfl 24 (.tmp 23) (.tmp 22) rfl rfl (w.heap.size + 1 + 1) 64 (.int .u32 (toU32 z).1) rfl HV.out rfl 27 _ KB.out (by rw [tyBk.arr]; omega) (by kernel_rfl) ?_; intro v1 ox bx; rw [BkA.set_nonce] at bx
         have K1 := Lib.hid bx
         have D1 := Lib.hid (show DE w v1 from ⟨DX.out.below.trans (ox.below (by simp; omega)), ox.blk DX.out.z0 (by simp)⟩)
         have O1 := Lib.hid (OB.out.only ox KB.out)
         clear ox bx)
      | ((with_reducible refine at_load 4 ?_); refine tyBk.wpList_load rfl (.tmp 4) rfl (w.heap.size + 1 + 1) 0 rfl ({ b with nonce := toU32 z } : BkA) (by simpa using RowC.of_blk K1.out) ?_)
      | ((with_reducible refine at_store 2 24 ?_); refine tyBk.wpList_store rfl (.tmp 2) (.tmp 24) rfl rfl (w.heap.size + 1) ({ b with nonce := toU32 z } : BkA) rfl rfl 27 _ D1.out.z0 rfl ?_; intro wz oz bz))
    refine bodyPost_ret (results_cell_tmp1 rfl _ _ (w.heap.size + 1) 27 _ (0, 0) _ rfl bz Tryd.underlying27 rfl (by rw [tyBk.arr]; kernel_rfl)) rfl ?_
    exact ⟨D1.out.below.trans (oz.below (by simp)), _, HB.out, rfl, O1.out.only oz D1.out.z0⟩
theorem decB_ok : DecBOk := fun l w h => bDec_r l h w
end Go.Proofs.YthpnmmilioonhaaDoor
