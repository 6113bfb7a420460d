/- The document's Decode of a block. Written by genBDec.py. -/
import Derived.Test.YthpnmmilioonhaaBkO
import Derived.Test.YthpnmmilioonhaaTxPc
namespace Go.Proofs.Ythpnmmilioonhaa
open Go.RowKit
theorem rRead3_r (l : List UInt8) (hs : l.length ≤ 1000000) (w : World) :
    Calls Try.prog 35 #[.string ⟨l.toArray⟩] w (EndG vu64 (vu64 0) w (readR l)) := by
  refine (refRead_any ⟨l.toArray⟩ (by rw [mkb_size]; exact hs) w).mono ?_
  rintro e w' ⟨rfl, hb⟩
  refine ⟨hb, ?_⟩
  rcases readR_f l with ⟨er, _, hf, hg⟩ | ⟨n, r, hf, hg, _⟩
  · rw [hg]
    show Ending.returned (getV (readF l)) = _
    rw [hf]
    rfl
  · rw [hg]
    show Ending.returned (getV (readF l)) = _
    rw [hf]
    rfl
/-- how the document's Decode of a block ends -/
def EndBD (w : World) (x : Except Int BlockV) (e : Ending) (w' : World) : Prop :=
  Below w.heap.size w w' ∧ match x with
  | .ok B => ∃ b : BkA, b.B = B ∧ e = .returned (.tuple #[.agg b.cells.toArray, .int .i64 0]) ∧ BO w' b
  | .error er => e = .returned (.tuple #[.agg bZ.cells.toArray, .int .i64 er])
theorem EndBD.err {w w' : World} {er : Int} {e : Ending} (hb : Below w.heap.size w w') (h : e = .returned (.tuple #[.agg bZ.cells.toArray, .int .i64 er])) : EndBD w (.error er) e w' := ⟨hb, h⟩
/-- what lies there while Decode is at work: the answer's place -/
structure BdS (w0 : World) (w : World) : Prop where
  below : Below w0.heap.size w0 w
  k2 : ∃ cs : Array Value, cs.size = 66 ∧ Blk w w0.heap.size 28 cs
theorem BdS.call {w0 w w' : World} (h : BdS w0 w) (hb : Below w.heap.size w w') : BdS w0 w' where
  below := h.below.trans (hb.mono h.below.size)
  k2 := by obtain ⟨cs, h1, h2⟩ := h.k2; exact ⟨cs, h1, below_blk hb h2 h2.lt⟩
theorem BdS.lt {w0 w : World} (h : BdS w0 w) : w0.heap.size < w.heap.size := by obtain ⟨cs, _, h2⟩ := h.k2; exact h2.lt
theorem BdS.one (w0 : World) (cs : Array Value) (h : cs.size = 66) : BdS w0 (w0.alloc (.cells cs 28)) := ⟨(Below.refl _ _).alloc (Nat.le_refl _) _, ⟨cs, h, Blk.new _ _ _⟩⟩
theorem BdS.step {w0 w w' : World} (h : BdS w0 w) {B : Nat} (hb : Below B w w') (hB : w0.heap.size < B) : BdS w0 w' where
  below := h.below.trans (hb.mono (by omega))
  k2 := by obtain ⟨cs, h1, h2⟩ := h.k2; exact ⟨cs, h1, below_blk hb h2 hB⟩
theorem BdS.only {w0 w w' : World} {g : Nat} (h : BdS w0 w) (o : Only [g] w w') (hg : w0.heap.size < g) : BdS w0 w' where
  below := h.below.trans (o.below (by simp; omega))
  k2 := by obtain ⟨cs, h1, h2⟩ := h.k2; exact ⟨cs, h1, o.blk h2 (by simp; omega)⟩
/-- what Decode answers, by what is read of the transactions -/
def blkX (p r : K32) (z : IntV .u32) (x : Except Int (List TxV × List UInt8)) : Except Int BlockV := match x with
  | .error e => .error e
  | .ok (l, s) => if s = [] then .ok ⟨p, r, z, l⟩ else .error 50
theorem built_Blk (t : TypeId) (ht : t = 28) (k m : K32) (z : IntV .u32) : Try.prog.built t [(0, .agg (encK k).toArray), (1, .agg (encK m).toArray), (2, .int .u32 z.1)] = some (({ bZ with prev := k, root := m, nonce := z } : BkA)).cells.toArray := by
  subst ht
  obtain ⟨l, hl⟩ := k
  iterate 32 (rcases l with _ | ⟨b, l⟩; · simp at hl)
  rcases l with _ | ⟨b, l⟩
  · obtain ⟨l, hm⟩ := m
    iterate 32 (rcases l with _ | ⟨b, l⟩; · simp at hm)
    rcases l with _ | ⟨b, l⟩
    · kernel_rfl
    · simp at hm
  · simp at hl
set_option maxRecDepth 20000 in
set_option maxHeartbeats 8000000 in
theorem rBDec_r (l : List UInt8) (hs : l.length ≤ 1000000) (w : World) :
    Calls Try.prog 9 #[.string ⟨l.toArray⟩] w (EndBD w (decBlk l)) := by
  obtain ⟨Y, hY⟩ : ∃ Y, decBlk l = Y := ⟨_, rfl⟩
  rw [hY]
  have HY := Lib.hid hY
  have ST0 := Lib.hid (BdS.one w)
  clear hY
  go_enter Try.func9, Try.ntmps9
  go_wp2_with fail
  have hc := rKey_r l hs
  cases hq : keyR l with
  | error er =>
    have he0 : er ≠ 0 := by rcases errs_key l er hq with h | h | h <;> omega
    have hd : (er == 0) = false := beq_eq_false_iff_ne.mpr he0
    have HE := Lib.hid (show Y = .error er by rw [← HY.out]; simp only [decBlk, blkR, mapR, thenR, hq])
    have HC := Lib.hid (fun W => hq ▸ hc W)
    clear hc hq he0
    refine (HC.out _).mono ?_
    rintro e w1 ⟨b1, rfl⟩
    have ST := Lib.hid ((ST0.out _ (by kernel_rfl)).call b1)
    clear b1 HC ST0
    go_wp2_with (first
      | ((with_reducible refine at_store 4 24 ?_); refine tyKc.wpList_store rfl (.tmp 4) (.tmp 24) rfl rfl w1.heap.size zeroKey rfl rfl 24 _ (Blk.new w1 _ _) rfl ?_; intro w2 o2 b2
         have ST' := Lib.hid (ST.out.call (((Below.refl w1.heap.size w1).alloc (Nat.le_refl _) _).trans (o2.below (by simp))))
         clear b2 o2
         clear ST; have ST := ST'; clear ST'
         obtain ⟨cz, hz, kz⟩ := ST.out.k2; have KZ := Lib.hid kz; have HZ := Lib.hid hz; clear kz hz)
      | ((with_reducible refine at_build 29 ?_); refine wpList_built rfl 28 #[] rfl bZ.cells.toArray (by kernel_rfl) ?_)
      | ((with_reducible refine at_store 2 29 ?_); refine tyBk.wpList_store rfl (.tmp 2) (.tmp 29) rfl rfl w.heap.size bZ rfl rfl 28 cz KZ.out HZ.out ?_; intro wz oz bz))
    refine bodyPost_ret (results_cell_tmp1 rfl _ _ w.heap.size 28 _ (0, 0) _ rfl bz Try.underlying28 rfl (by rw [tyBk.arr]; kernel_rfl)) rfl ?_
    rw [HE.out]
    exact EndBD.err (ST.out.below.trans (oz.below (by simp))) rfl
  | ok x =>
    obtain ⟨k0, r1⟩ := x
    have HQ0 := Lib.hid hq
    have hs0 := rest_len good_key hq hs
    have HC := Lib.hid (fun W => hq ▸ hc W)
    clear hc hq
    refine (HC.out _).mono ?_
    rintro e wq0 ⟨b1, rfl⟩
    have ST := Lib.hid ((ST0.out _ (by kernel_rfl)).call b1)
    clear b1 HC ST0
    go_wp2_with ((with_reducible refine at_store 4 24 ?_); refine tyKc.wpList_store rfl (.tmp 4) (.tmp 24) rfl rfl wq0.heap.size k0 rfl rfl 24 _ (Blk.new wq0 _ _) rfl ?_; intro v0 o2 b2
                 have K4 := Lib.hid b2
                 have ST' := Lib.hid (ST.out.call (((Below.refl wq0.heap.size wq0).alloc (Nat.le_refl _) _).trans (o2.below (by simp))))
                 clear b2 o2
                 clear ST; have ST := ST'; clear ST')
    have hc := rKey_r r1 hs0
    cases hq : keyR r1 with
    | error er =>
      have he0 : er ≠ 0 := by rcases errs_key r1 er hq with h | h | h <;> omega
      have hd : (er == 0) = false := beq_eq_false_iff_ne.mpr he0
      have HE := Lib.hid (show Y = .error er by rw [← HY.out]; simp only [decBlk, blkR, mapR, thenR, HQ0.out, hq])
      have HC := Lib.hid (fun W => hq ▸ hc W)
      clear hc hq he0
      refine (HC.out _).mono ?_
      rintro e w1 ⟨b1, rfl⟩
      have ST' := Lib.hid (ST.out.call b1)
      clear b1 HC
      clear ST; have ST := ST'; clear ST'
      go_wp2_with (first
        | ((with_reducible refine at_store 7 34 ?_); refine tyKc.wpList_store rfl (.tmp 7) (.tmp 34) rfl rfl w1.heap.size zeroKey rfl rfl 24 _ (Blk.new w1 _ _) rfl ?_; intro w2 o2 b2
           have ST' := Lib.hid (ST.out.call (((Below.refl w1.heap.size w1).alloc (Nat.le_refl _) _).trans (o2.below (by simp))))
           clear b2 o2
           clear ST; have ST := ST'; clear ST'
           obtain ⟨cz, hz, kz⟩ := ST.out.k2; have KZ := Lib.hid kz; have HZ := Lib.hid hz; clear kz hz)
        | ((with_reducible refine at_build 39 ?_); refine wpList_built rfl 28 #[] rfl bZ.cells.toArray (by kernel_rfl) ?_)
        | ((with_reducible refine at_store 2 39 ?_); refine tyBk.wpList_store rfl (.tmp 2) (.tmp 39) rfl rfl w.heap.size bZ rfl rfl 28 cz KZ.out HZ.out ?_; intro wz oz bz))
      refine bodyPost_ret (results_cell_tmp1 rfl _ _ w.heap.size 28 _ (0, 0) _ rfl bz Try.underlying28 rfl (by rw [tyBk.arr]; kernel_rfl)) rfl ?_
      rw [HE.out]
      exact EndBD.err (ST.out.below.trans (oz.below (by simp))) rfl
    | ok x =>
      obtain ⟨k1, r2⟩ := x
      have HQ1 := Lib.hid hq
      have hs1 := rest_len good_key hq hs0
      have HC := Lib.hid (fun W => hq ▸ hc W)
      clear hc hq
      refine (HC.out _).mono ?_
      rintro e wq1 ⟨b1, rfl⟩
      have K4' := Lib.hid (below_blk b1 K4.out K4.out.lt)
      have ST' := Lib.hid (ST.out.call b1)
      clear b1 HC K4
      clear ST; have ST := ST'; clear ST'
      go_wp2_with ((with_reducible refine at_store 7 34 ?_); refine tyKc.wpList_store rfl (.tmp 7) (.tmp 34) rfl rfl wq1.heap.size k1 rfl rfl 24 _ (Blk.new wq1 _ _) rfl ?_; intro v1 o2 b2
                   have K7 := Lib.hid b2
                   have B2 := Lib.hid (((Below.refl wq1.heap.size wq1).alloc (Nat.le_refl _) _).trans (o2.below (by simp)))
                   have K4 := Lib.hid (below_blk B2.out K4'.out K4'.out.lt)
                   have ST' := Lib.hid (ST.out.call B2.out)
                   clear b2 o2 B2 K4'
                   clear ST; have ST := ST'; clear ST')
      have hc := rGet_r r2 hs1 4 (by omega) (by omega)
      cases hq : getR 4 r2 with
      | error er =>
        have he0 : er = 30 := getR_err hq
        subst he0
        have HE := Lib.hid (show Y = .error 30 by rw [← HY.out]; simp only [decBlk, blkR, mapR, thenR, HQ0.out, HQ1.out, u32R, hq])
        have HC := Lib.hid (fun W => hq ▸ hc W)
        clear hc hq
        refine (HC.out _).mono ?_
        rintro e w1 ⟨b1, rfl⟩
        have ST' := Lib.hid (ST.out.call b1)
        clear b1 HC K4 K7
        clear ST; have ST := ST'; clear ST'
        obtain ⟨cz, hz, kz⟩ := ST.out.k2; have KZ := Lib.hid kz; have HZ := Lib.hid hz; clear kz hz
        go_wp2_with (first
          | ((with_reducible refine at_build 49 ?_); refine wpList_built rfl 28 #[] rfl bZ.cells.toArray (by kernel_rfl) ?_)
          | ((with_reducible refine at_store 2 49 ?_); refine tyBk.wpList_store rfl (.tmp 2) (.tmp 49) rfl rfl w.heap.size bZ rfl rfl 28 cz KZ.out HZ.out ?_; intro wz oz bz))
        refine bodyPost_ret (results_cell_tmp1 rfl _ _ w.heap.size 28 _ (0, 0) _ rfl bz Try.underlying28 rfl (by rw [tyBk.arr]; kernel_rfl)) rfl ?_
        rw [HE.out]
        exact EndBD.err (ST.out.below.trans (oz.below (by simp))) rfl
      | ok x =>
        obtain ⟨nz, r3⟩ := x
        have HQ2 := Lib.hid (show u32R r2 = .ok (toU32 nz, r3) by simp only [u32R, mapR, hq])
        have hs2 := rest_len (good_get 4) hq hs1
        have hnz : nz < 4294967296 := ok_of (good_get 4) hq
        have HV := Lib.hid (show Value.int .u32 ((nz : Int) % 4294967296) = .int .u32 (toU32 nz).1 from congrArg _ (by show (nz : Int) % 4294967296 = ((nz % 4294967296 : Nat) : Int); omega))
        have HC := Lib.hid (fun W => hq ▸ hc W)
        clear hc hq hnz
        refine (HC.out _).mono ?_
        rintro e wq2 ⟨b1, rfl⟩
        have K4' := Lib.hid (below_blk b1 K4.out K4.out.lt)
        have K7' := Lib.hid (below_blk b1 K7.out K7.out.lt)
        have ST' := Lib.hid (ST.out.call b1)
        clear b1 HC K4 K7
        clear ST; have ST := ST'; clear ST'
        go_wp2_with fail
        have hc := rRead3_r r3 hs2
        rcases readR_f r3 with ⟨er, he0, hf, hg⟩ | ⟨n, r4, hf, hg, hn64⟩
        · have hd : (er == 0) = false := beq_eq_false_iff_ne.mpr he0
          have hnb : numB r3 = .error er := by unfold numB; rw [hf]; exact if_neg he0
          have HE := Lib.hid (show Y = .error er by rw [← HY.out]; simp only [decBlk, blkR, mapR, thenR, txsR, HQ0.out, HQ1.out, HQ2.out, hnb])
          have HC := Lib.hid (fun W => hg ▸ hc W)
          clear hc hf hg he0 hnb
          refine (HC.out _).mono ?_
          rintro e w1 ⟨b1, rfl⟩
          have ST' := Lib.hid (ST.out.call b1)
          clear b1 HC K4' K7'
          clear ST; have ST := ST'; clear ST'
          obtain ⟨cz, hz, kz⟩ := ST.out.k2; have KZ := Lib.hid kz; have HZ := Lib.hid hz; clear kz hz
          go_wp2_with (first
            | ((with_reducible refine at_build 59 ?_); refine wpList_built rfl 28 #[] rfl bZ.cells.toArray (by kernel_rfl) ?_)
            | ((with_reducible refine at_store 2 59 ?_); refine tyBk.wpList_store rfl (.tmp 2) (.tmp 59) rfl rfl w.heap.size bZ rfl rfl 28 cz KZ.out HZ.out ?_; intro wz oz bz))
          refine bodyPost_ret (results_cell_tmp1 rfl _ _ w.heap.size 28 _ (0, 0) _ rfl bz Try.underlying28 rfl (by rw [tyBk.arr]; kernel_rfl)) rfl ?_
          rw [HE.out]
          exact EndBD.err (ST.out.below.trans (oz.below (by simp))) rfl
        · have hs3 : r4.length ≤ 1000000 := by
            have : (n, r4, (0 : Int)) = readF r3 := hf.symm
            rcases readF_cases r3 with ⟨n', r', h1, h2, _⟩ | h1 | h1
            · rw [h1] at this
              injection this with _ this
              injection this with this _
              subst this
              have := congrArg List.length h2
              rw [List.length_append] at this
              omega
            · rw [h1] at this; simp at this
            · rw [h1] at this; simp at this
          have HC := Lib.hid (fun W => hg ▸ hc W)
          by_cases hn0 : n = 0
          · subst hn0
            have hnb : numB r3 = .error 110 := by unfold numB; rw [hf]; simp
            have HE := Lib.hid (show Y = .error 110 by rw [← HY.out]; simp only [decBlk, blkR, mapR, thenR, txsR, HQ0.out, HQ1.out, HQ2.out, hnb])
            clear hc hf hg hnb hn64
            refine (HC.out _).mono ?_
            rintro e w1 ⟨b1, rfl⟩
            have ST' := Lib.hid (ST.out.call b1)
            clear b1 HC K4' K7'
            clear ST; have ST := ST'; clear ST'
            obtain ⟨cz, hz, kz⟩ := ST.out.k2; have KZ := Lib.hid kz; have HZ := Lib.hid hz; clear kz hz
            go_wp2_with (first
              | ((with_reducible refine at_build 63 ?_); refine wpList_built rfl 28 #[] rfl bZ.cells.toArray (by kernel_rfl) ?_)
              | ((with_reducible refine at_store 2 63 ?_); refine tyBk.wpList_store rfl (.tmp 2) (.tmp 63) rfl rfl w.heap.size bZ rfl rfl 28 cz KZ.out HZ.out ?_; intro wz oz bz))
            refine bodyPost_ret (results_cell_tmp1 rfl _ _ w.heap.size 28 _ (0, 0) _ rfl bz Try.underlying28 rfl (by rw [tyBk.arr]; kernel_rfl)) rfl ?_
            rw [HE.out]
            exact EndBD.err (ST.out.below.trans (oz.below (by simp))) rfl
          by_cases hn30 : 30 < n
          · have hnb : numB r3 = .error 51 := by unfold numB; rw [hf]; simp [hn0, hn30]
            have HE := Lib.hid (show Y = .error 51 by rw [← HY.out]; simp only [decBlk, blkR, mapR, thenR, txsR, HQ0.out, HQ1.out, HQ2.out, hnb])
            have hd0 : ((n : Int) == 0) = false := beq_eq_false_iff_ne.mpr (by omega)
            have hd1 : decide ((30 : Int) < n) = true := by simp; omega
            clear hc hf hg hnb hn64
            refine (HC.out _).mono ?_
            rintro e w1 ⟨b1, rfl⟩
            have ST' := Lib.hid (ST.out.call b1)
            clear b1 HC K4' K7'
            clear ST; have ST := ST'; clear ST'
            obtain ⟨cz, hz, kz⟩ := ST.out.k2; have KZ := Lib.hid kz; have HZ := Lib.hid hz; clear kz hz
            go_wp2_with (first
              | ((with_reducible refine at_build 66 ?_); refine wpList_built rfl 28 #[] rfl bZ.cells.toArray (by kernel_rfl) ?_)
              | ((with_reducible refine at_store 2 66 ?_); refine tyBk.wpList_store rfl (.tmp 2) (.tmp 66) rfl rfl w.heap.size bZ rfl rfl 28 cz KZ.out HZ.out ?_; intro wz oz bz))
            refine bodyPost_ret (results_cell_tmp1 rfl _ _ w.heap.size 28 _ (0, 0) _ rfl bz Try.underlying28 rfl (by rw [tyBk.arr]; kernel_rfl)) rfl ?_
            rw [HE.out]
            exact EndBD.err (ST.out.below.trans (oz.below (by simp))) rfl
          have hd0 : ((n : Int) == 0) = false := beq_eq_false_iff_ne.mpr (by omega)
          have hd1 : decide ((30 : Int) < n) = false := by simp; omega
          have hnb : numB r3 = .ok (n, r4) := by unfold numB; rw [hf]; simp [hn0, hn30]
          have HNB := Lib.hid hnb
          have hw64 : wrap64 (n : Int) = n := by unfold wrap64; omega
          obtain ⟨X, hX⟩ : ∃ X, listR txR n r4 = X := ⟨_, rfl⟩
          have HX := Lib.hid hX
          have HYX := Lib.hid (show Y = blkX k0 k1 (toU32 nz) X by
            rw [← HY.out]
            simp only [decBlk, blkR, mapR, thenR, txsR, HQ0.out, HQ1.out, HQ2.out, hnb, hX]
            cases X with
            | error e => rfl
            | ok p => rfl)
          clear hc hf hg hnb hn64 hX HY HQ0 HQ1 HQ2
          refine (HC.out _).mono ?_
          rintro e wq3 ⟨b1, rfl⟩
          have K4 := Lib.hid (below_blk b1 K4'.out K4'.out.lt)
          have K7 := Lib.hid (below_blk b1 K7'.out K7'.out.lt)
          have ST' := Lib.hid (ST.out.call b1)
          clear b1 HC K4' K7'
          clear ST; have ST := ST'; clear ST'
          go_wp2_with (first
            | ((with_reducible refine at_load 4 ?_); refine tyKy.wpList_load rfl (.tmp 4) rfl wq0.heap.size 0 rfl k0 (by simpa [encK] using RowC.of_blk K4.out) ?_)
            | ((with_reducible refine at_load 7 ?_); refine tyKy.wpList_load rfl (.tmp 7) rfl wq1.heap.size 0 rfl k1 (by simpa [encK] using RowC.of_blk K7.out) ?_)
            | ((with_reducible refine at_build 71 ?_); refine wpList_built rfl 28 #[(0, .tmp 67), (1, .tmp 68), (2, .tmp 70)] rfl (({ bZ with prev := k0, root := k1, nonce := toU32 nz } : BkA)).cells.toArray ((congrArg (Try.prog.built 28) (show _ = [(0, Value.agg (encK k0).toArray), (1, Value.agg (encK k1).toArray), (2, Value.int .u32 (toU32 nz).1)] by kernel_rfl)).trans (built_Blk _ rfl k0 k1 (toU32 nz))) ?_)
            | ((with_reducible refine at_store 16 71 ?_); refine tyBk.wpList_store rfl (.tmp 16) (.tmp 71) rfl rfl wq3.heap.size ({ bZ with prev := k0, root := k1, nonce := toU32 nz } : BkA) rfl rfl 28 _ (Blk.new wq3 _ _) rfl ?_; intro wq4 o4 b4
               have KB := Lib.hid b4
               have L3 := Lib.hid ST.out.lt
               have S4 := Lib.hid (show wq4.heap.size = wq3.heap.size + 1 by rw [o4.size]; simp)
               have ST' := Lib.hid (ST.out.call (((Below.refl wq3.heap.size wq3).alloc (Nat.le_refl _) _).trans (o4.below (by simp))))
               clear b4 o4 K4 K7
               clear ST; have ST := ST'; clear ST'))
          go_loopw [14, 17] (fun s i wr => ∃ (lst : List TxA) (r : List UInt8) (m : Nat) (A : Option Addr) (c : Nat), lst.length + m = n ∧ i = .int .i64 (lst.length : Nat) ∧ s = .string ⟨r.toArray⟩ ∧ Hid (X = contL (lst.map TxA.T) (listR txR m r) ∧ r.length ≤ 1000000) ∧ Hid (wr.ownsRow (wq3.heap.size + 1) 44 38 (.slice A lst.length c) lst.length (cellsOf TxA.cells lst)) ∧ Hid (∀ t ∈ lst, TO wr t) ∧ Hid (Blk wr wq3.heap.size 28 (({ bZ with prev := k0, root := k1, nonce := toU32 nz, txs := lst, A := A, c := c } : BkA)).cells.toArray) ∧ Hid (BdS w wr ∧ wq3.heap.size + 1 ≤ wr.heap.size)) (fun _ i _ => n - (intOf i).toNat)
          case atStart =>
            refine ⟨[], r4, n, none, 0, by simp, rfl, rfl, Lib.hid ⟨?_, hs3⟩, Lib.hid (World.ownsRow_nil _ _ _ _), Lib.hid (fun _ h => by cases h), KB, Lib.hid ⟨ST.out, Nat.le_of_eq S4.out.symm⟩⟩
            rw [HX.out]
            cases X <;> rfl
          case round =>
            clear ST KB HX hs3 S4
            obtain ⟨lst, r, m, A, c, hlm, rfl, rfl, hx, OV, TOS, KB, hst⟩ := hrel
            have ST := Lib.hid hst.out.1
            have SZ := Lib.hid hst.out.2
            clear hst
            obtain ⟨j, hj⟩ : ∃ j, lst.length = j := ⟨_, rfl⟩
            have HJ := Lib.hid hj
            cases m with
            | zero =>
              have hjn : j = n := by omega
              rw [hj]
              clear hlm hj
              subst hjn
              obtain ⟨cz, hz, kz⟩ := ST.out.k2; have KZ := Lib.hid kz; have HZ := Lib.hid hz; clear kz hz
              have HXL := Lib.hid (show X = .ok (lst.map TxA.T, r) by rw [hx.out.1]; simp [contL, listR])
              clear hx
              cases r with
              | nil =>
                have HE := Lib.hid (show Y = .ok (({ bZ with prev := k0, root := k1, nonce := toU32 nz, txs := lst, A := A, c := c } : BkA)).B by rw [HYX.out, HXL.out]; rfl)
                clear HYX HXL
                go_wp2_with (first
                  | ((with_reducible refine at_load 16 ?_); refine tyBk.wpList_load rfl (.tmp 16) rfl wq3.heap.size 0 rfl ({ bZ with prev := k0, root := k1, nonce := toU32 nz, txs := lst, A := A, c := c } : BkA) (by simpa using RowC.of_blk KB.out) ?_)
                  | ((with_reducible refine at_store 2 98 ?_); refine tyBk.wpList_store rfl (.tmp 2) (.tmp 98) rfl rfl w.heap.size ({ bZ with prev := k0, root := k1, nonce := toU32 nz, txs := lst, A := A, c := c } : BkA) rfl rfl 28 cz KZ.out HZ.out ?_; intro wz oz bz))
                refine bodyPost_ret (results_cell_tmp1 rfl _ _ w.heap.size 28 _ (0, 0) _ rfl bz Try.underlying28 rfl (by rw [tyBk.arr]; kernel_rfl)) rfl ?_
                rw [HE.out]
                exact ⟨ST.out.below.trans (oz.below (by simp)), ({ bZ with prev := k0, root := k1, nonce := toU32 nz, txs := lst, A := A, c := c } : BkA), rfl, rfl, xown_base (xown_only OV.out oz KZ.out (by decide)) (Nat.zero_le _), fun t ht => (TOS.out t ht).onlyX oz KZ.out (by decide) (by decide) (by decide)⟩
              | cons b t =>
                have HE := Lib.hid (show Y = .error 50 by rw [HYX.out, HXL.out]; rfl)
                clear HYX HXL
                go_wp2_with (first
                  | ((with_reducible refine at_build 97 ?_); refine wpList_built rfl 28 #[] rfl bZ.cells.toArray (by kernel_rfl) ?_)
                  | ((with_reducible refine at_store 2 97 ?_); refine tyBk.wpList_store rfl (.tmp 2) (.tmp 97) rfl rfl w.heap.size bZ rfl rfl 28 cz KZ.out HZ.out ?_; intro wz oz bz))
                refine bodyPost_ret (results_cell_tmp1 rfl _ _ w.heap.size 28 _ (0, 0) _ rfl bz Try.underlying28 rfl (by rw [tyBk.arr]; kernel_rfl)) rfl ?_
                rw [HE.out]
                exact EndBD.err (ST.out.below.trans (oz.below (by simp))) rfl
            | succ m =>
              have hlt : j < n := by omega
              rw [hj]
              clear hj
              have hc := rRead_r r hx.out.2 wr
              cases hq : txR r with
              | error er =>
                have he0 : er ≠ 0 := by rcases errs_tx r er hq with h | h | h <;> omega
                have hd : (er == 0) = false := beq_eq_false_iff_ne.mpr he0
                rw [show readTx r = (noTx, [], er) by unfold readTx; rw [hq]] at hc
                have HE := Lib.hid (show Y = .error er by rw [HYX.out, hx.out.1, listR_err hq]; rfl)
                have HC := Lib.hid hc
                clear hc hq he0 hlm hx OV TOS KB
                go_wp2_with fail
                refine HC.out.mono ?_
                rintro e w1 ⟨⟨a, ha, rfl, to⟩, b1⟩
                have ST' := Lib.hid (ST.out.call b1)
                clear b1 HC ha to
                clear ST; have ST := ST'; clear ST'
                go_wp2_with (first
                  | ((with_reducible refine at_store 18 81 ?_); refine tyTx.wpList_store rfl (.tmp 18) (.tmp 81) rfl rfl w1.heap.size a rfl rfl 44 _ (Blk.new w1 _ _) rfl ?_; intro w2 o2 b2
                     have ST' := Lib.hid (ST.out.call (((Below.refl w1.heap.size w1).alloc (Nat.le_refl _) _).trans (o2.below (by simp))))
                     clear b2 o2
                     clear ST; have ST := ST'; clear ST'
                     obtain ⟨cz, hz, kz⟩ := ST.out.k2; have KZ := Lib.hid kz; have HZ := Lib.hid hz; clear kz hz)
                  | ((with_reducible refine at_build 86 ?_); refine wpList_built rfl 28 #[] rfl bZ.cells.toArray (by kernel_rfl) ?_)
                  | ((with_reducible refine at_store 2 86 ?_); refine tyBk.wpList_store rfl (.tmp 2) (.tmp 86) rfl rfl w.heap.size bZ rfl rfl 28 cz KZ.out HZ.out ?_; intro wz oz bz))
                refine bodyPost_ret (results_cell_tmp1 rfl _ _ w.heap.size 28 _ (0, 0) _ rfl bz Try.underlying28 rfl (by rw [tyBk.arr]; kernel_rfl)) rfl ?_
                rw [HE.out]
                exact EndBD.err (ST.out.below.trans (oz.below (by simp))) rfl
              | ok x =>
                obtain ⟨T, r2⟩ := x
                rw [show readTx r = (T, r2, 0) by unfold readTx; rw [hq]] at hc
                have HS := Lib.hid (rest_len good_tx hq hx.out.2)
                have HXN := Lib.hid (show X = contL (lst.map TxA.T ++ [T]) (listR txR m r2) by rw [hx.out.1, listR_ok hq])
                have HLM := Lib.hid hlm
                have HC := Lib.hid hc
                clear hc hq hlm hx
                go_wp2_with fail
                refine HC.out.mono ?_
                rintro e w1 ⟨⟨a, ha, rfl, to⟩, b1⟩
                have HA := Lib.hid ha
                have TA := Lib.hid to
                have OV1 := Lib.hid (xown_from OV.out b1)
                have TOS1 := Lib.hid (fun t ht => (TOS.out t ht).from b1)
                have KB1 := Lib.hid (below_blk b1 KB.out KB.out.lt)
                have SZ1 := Lib.hid (Nat.le_trans SZ.out b1.size)
                have ST' := Lib.hid (ST.out.call b1)
                clear b1 HC ha to OV TOS KB SZ
                clear ST; have ST := ST'; clear ST'
                go_wp2_with (first
                  | ((with_reducible refine at_store 18 81 ?_); refine tyTx.wpList_store rfl (.tmp 18) (.tmp 81) rfl rfl w1.heap.size a rfl rfl 44 _ (Blk.new w1 _ _) rfl ?_; intro w2 o2 b2
                     have KT := Lib.hid b2
                     have B2 := Lib.hid (((Below.refl w1.heap.size w1).alloc (Nat.le_refl _) _).trans (o2.below (by simp)))
                     have OV := Lib.hid (xown_from OV1.out B2.out)
                     have TOS := Lib.hid (fun t ht => (TOS1.out t ht).from B2.out)
                     have TA2 := Lib.hid (TA.out.from B2.out)
                     have KB := Lib.hid (below_blk B2.out KB1.out KB1.out.lt)
                     have SZ := Lib.hid (Nat.le_trans SZ1.out B2.out.size)
                     have ST' := Lib.hid (ST.out.call B2.out)
                     clear b2 o2 B2 OV1 TOS1 KB1 SZ1 TA
                     clear ST; have ST := ST'; clear ST'
                     have cell := BkA.c3 (RowC.of_blk KB.out))
                  | ((with_reducible refine at_load 18 ?_); refine tyTx.wpList_load rfl (.tmp 18) rfl w1.heap.size 0 rfl a (by simpa using RowC.of_blk KT.out) ?_)
                  | ((with_reducible refine at_buildSlice 91 ?_); refine tyTxR.wpList_build rfl zsTx 1 _ rfl [a] rfl (by omega) (by omega) (by kernel_rfl) ?_)
                  | ((with_reducible refine at_appendg 92 89 91 ?_); refine tyTxR.wpList_append1 rfl zcTx 144 zbTx (by omega) (.tmp 89) (.tmp 91) rfl (wq3.heap.size + 1) _ lst (by rw [HJ.out]; rfl) (OV.out.alloc _) _ 1 a rfl (Blk.new _ _ _) (by rw [HJ.out]; omega) (by have := SZ.out; simp; omega) ?_; intro v4 w4 p4 g4
                     obtain ⟨L2, hL2⟩ : ∃ L2, lst ++ [a] = L2 := ⟨_, rfl⟩
                     rw [hL2] at p4
                     have HL2 := Lib.hid hL2
                     clear hL2
                     obtain ⟨A4, c4, rfl⟩ := own_shape p4
                     have OW := Lib.hid p4
                     have BA := Lib.hid ((Below.refl w2.heap.size w2).alloc (Nat.le_refl _) (.cells (cellsOf TxA.cells [a]).toArray 44))
                     have BG := Lib.hid (show Below (wq3.heap.size + 1) w2 w4 from ((Below.refl _ _).alloc SZ.out _).trans (xown_grown (OV.out.alloc _) g4 (by have := SZ.out; simp; omega)))
                     have TOW := Lib.hid (show ∀ t ∈ L2, TO w4 t by
                       intro t ht
                       rw [← HL2.out] at ht
                       rcases List.mem_append.1 ht with h | h
                       · exact ((TOS.out t h).from BA.out).grown g4 (OV.out.alloc _)
                       · obtain rfl : t = a := by simpa using h
                         exact (TA2.out.from BA.out).grown g4 (OV.out.alloc _))
                     have KB4 := Lib.hid (below_blk BG.out KB.out (by omega))
                     have SZ4 := Lib.hid (Nat.le_trans SZ.out BG.out.size)
                     have ST' := Lib.hid (BdS.step ST.out BG.out (by have := L3.out; omega))
                     clear p4 g4 OV TOS TA2 KB BA BG SZ cell KT
                     clear ST; have ST := ST'; clear ST')
                  | ((with_reducible refine at_store 93 92 ?_); refine wpList_store_cell rfl 26 (.tmp 93) (.tmp 92) rfl rfl wq3.heap.size 65 (.slice A4 L2.length c4) rfl rfl rfl 28 _ KB4.out (by rw [tyBk.arr]; omega) (by kernel_rfl) ?_; intro w5 ox bx; rw [BkA.set_txs] at bx
                     have KB := Lib.hid bx
                     have OV := Lib.hid (xown_only OW.out ox KB4.out (by decide))
                     have TOS := Lib.hid (fun t ht => (TOW.out t ht).onlyX ox KB4.out (by decide) (by decide) (by decide))
                     have SZ := Lib.hid (show wq3.heap.size + 1 ≤ w5.heap.size by rw [ox.size]; exact SZ4.out)
                     have ST' := Lib.hid (BdS.only ST.out ox (by have := L3.out; omega))
                     clear ox bx OW TOW KB4 SZ4
                     clear ST; have ST := ST'; clear ST'))
                have e1 : L2.length = j + 1 := by rw [← HL2.out, List.length_append, HJ.out]; rfl
                have HXM := Lib.hid (show X = contL (L2.map TxA.T) (listR txR m r2) by rw [HXN.out, ← HL2.out, List.map_append, ← HA.out]; rfl)
                go_roundw
                case rel => exact ⟨L2, r2, m, A4, c4, by rw [e1]; have h1 := HLM.out; have h2 := HJ.out; omega, by rw [e1]; go_num, rfl, Lib.hid ⟨HXM.out, HS.out⟩, OV, TOS, KB, Lib.hid ⟨ST.out, SZ.out⟩⟩
                case measure => simp [intOf]; omega
end Go.Proofs.Ythpnmmilioonhaa
