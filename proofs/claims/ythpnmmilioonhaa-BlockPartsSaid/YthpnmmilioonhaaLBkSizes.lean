/- BlockSizes: a block has as many bytes as its transactions, and 69 more: the statement's walk. -/
import Derived.Test.YthpnmmilioonhaaLBkBack
namespace Go.Proofs.Ythpnmmilioonhaa
open Go.RowKit
theorem lightB_no {B : BlockV} (h : heavyB B = false) : B.txs.length ≤ 40 ∧ ∀ T ∈ B.txs, T.ins.length ≤ 60 ∧ T.outs.length ≤ 60 ∧ T.nulls.length ≤ 60 ∧ T.notes.length ≤ 60 := by
  unfold heavyB at h
  rw [Bool.or_eq_false_iff, decide_eq_false_iff_not, List.any_eq_false] at h
  refine ⟨by omega, fun T hT => ?_⟩
  have := h.2 T hT
  simp only [heavyF, decide_eq_true_eq] at this
  omega
theorem take_msucc {α β : Type} (f : α → β) (l : List α) (j : Nat) (hj : j < l.length) : (l.take (j + 1)).map f = (l.take j).map f ++ [f l[j]] := by
  rw [List.take_succ_eq_append_getElem hj, List.map_append]
  rfl
theorem sizeF_le (T : TxV) : sizeF T ≤ 6000 := by
  unfold sizeF
  rcases encF_cases T with ⟨h, he⟩ | he | he
  · rw [he]; exact txB_sixB h
  · rw [he]; simp
  · rw [he]; simp
theorem sizeF_ok {T : TxV} (h : OkTx T) : sizeF T = (txB T).length := by
  unfold sizeF
  rw [encF_ok T h]
def szF (l : List TxV) : Nat := (l.map sizeF).sum
theorem szF_snoc (l : List TxV) (T : TxV) : szF (l ++ [T]) = szF l + sizeF T := by
  unfold szF
  rw [List.map_append, List.sum_append]
  simp
theorem szF_ok {B : BlockV} (h : OkBlk B) : (blkB B).length = 69 + szF B.txs := by
  rw [blkB_len B h]
  unfold szF
  congr 2
  exact List.map_congr_left fun T hT => (sizeF_ok (h.2.2 T hT)).symm
set_option maxRecDepth 20000 in
set_option maxHeartbeats 1000000 in
theorem bksizes_walk (HE : EncBOk) (HZ : SizeBOk) (a : BkA) (w : World) (h : a.In w w.heap.size) :
    Calls Try.prog 5 #[.agg a.cells.toArray] w fun e w' => e = .returned (.bool true) ∧ Below w.heap.size w w' := by
  have HB0 := Lib.hid (BH.new h)
  clear h
  obtain ⟨hv, hhv⟩ : ∃ b, heavyB a.B = b := ⟨_, rfl⟩
  have hH := Lib.hid hhv
  clear hhv
  by_cases hbad : hv = true
  · subst hbad
    go_enter Try.func5, Try.ntmps5
    go_wp2_with ((with_reducible refine at_load 1 ?_); refine tyBk.wpList_load rfl (.tmp 1) rfl w.heap.size 0 rfl a (by simpa using RowC.of_blk HB0.out.k) ?_)
    refine (heavyB_any a _ HB0.out.inn).mono ?_
    rintro e w1 ⟨rfl, b1⟩
    rw [hH.out]
    have HB1 := Lib.hid (HB0.out.call b1)
    clear b1 HB0
    go_wp2_with fail
    refine (bshown_any HE _).mono ?_
    rintro e w2 ⟨rfl, b2⟩
    go_wp2
    go_ret
    exact ⟨rfl, (HB1.out.call b2).below⟩
  obtain rfl : hv = false := by cases hv <;> simp_all
  clear hbad
  go_enter Try.func5, Try.ntmps5
  go_wp2_with ((with_reducible refine at_load 1 ?_); refine tyBk.wpList_load rfl (.tmp 1) rfl w.heap.size 0 rfl a (by simpa using RowC.of_blk HB0.out.k) ?_)
  refine (heavyB_any a _ HB0.out.inn).mono ?_
  rintro e w1 ⟨rfl, b1⟩
  rw [hH.out]
  have HB1 := Lib.hid (HB0.out.call b1)
  clear b1 HB0
  go_wp2_with fail
  refine (bshown_any HE _).mono ?_
  rintro e w2 ⟨rfl, b2⟩
  have HB2 := Lib.hid (HB1.out.call b2)
  clear b2 HB1
  go_wp2_with ((with_reducible refine at_load 1 ?_); refine tyBk.wpList_load rfl (.tmp 1) rfl w.heap.size 0 rfl a (by simpa using RowC.of_blk HB2.out.k) ?_)
  refine (HE a _ HB2.out.inn (midB_of hH.out)).mono ?_
  rintro e w3 ⟨rfl, b3⟩
  have ST := Lib.hid (HB2.out.call b3)
  clear b3 HB2
  obtain ⟨⟨S, er⟩, hSe⟩ : ∃ x, encBF a.B = x := ⟨_, rfl⟩
  have HSe := Lib.hid hSe
  rw [hSe]
  clear hSe
  have h40 : a.txs.length ≤ 40 := by have := (lightB_no hH.out).1; rwa [show a.B.txs.length = a.txs.length from List.length_map _] at this
  unfold encV
  go_wp2_with fail
  go_loopw [5, 6] (fun s i wr => ∃ (j q : Nat), j ≤ a.txs.length ∧ i = .int .i64 j ∧ s = .int .i64 q ∧ q ≤ 69 + 6000 * j ∧ Hid (q = 69 + szF ((a.txs.take j).map TxA.T)) ∧ Hid (BH w wr a)) (fun _ i _ => a.txs.length - (intOf i).toNat)
  case atStart => exact ⟨0, 69, by omega, rfl, rfl, by omega, Lib.hid rfl, ST⟩
  case round =>
    clear ST
    obtain ⟨j, q, hj, rfl, rfl, hq, hx, ST⟩ := hrel
    by_cases hlt : j < a.txs.length
    · have hj40 : j ≤ 39 := by omega
      obtain ⟨g1, o1, e1, l1, rc1⟩ := ST.out.inn.row.at TxA.len hlt
      obtain ⟨t, ht⟩ : ∃ t, a.txs[j] = t := ⟨_, rfl⟩
      have hmem : t ∈ a.txs := ht ▸ List.getElem_mem hlt
      have hTS := take_msucc TxA.T a.txs j hlt
      rw [ht] at rc1 hTS
      have HTS := Lib.hid hTS
      have MI := Lib.hid (ST.out.inn.each t hmem)
      have RC := Lib.hid rc1
      have cc : wr.cell? ⟨w.heap.size, 65, none⟩ = some (.slice (some ⟨g1, o1, none⟩) a.txs.length a.c) := by rw [← e1]; exact BkA.c3 (RowC.of_blk ST.out.k)
      have hz := sizeF_le t.T
      clear ht hmem rc1 e1 hTS
      obtain ⟨z, hzz⟩ : ∃ z, sizeF t.T = z := ⟨_, rfl⟩
      have HZZ := Lib.hid hzz
      rw [hzz] at hz
      clear hzz
      go_wp2_with ((with_reducible refine at_load 30 ?_); refine tyTxR.wpList_load rfl (.tmp 30) rfl g1 (o1 + j * 38) rfl t RC.out ?_)
      refine (HZ t _ MI.out).mono ?_
      rintro e w4 ⟨rfl, b4⟩
      rw [HZZ.out]
      have ST' := Lib.hid (ST.out.call b4)
      clear b4 cc
      clear ST; have ST := ST'; clear ST'
      go_wp2_with fail
      go_roundw
      case rel => exact ⟨j + 1, q + z, by omega, by go_num, by go_num, by omega, Lib.hid (by rw [HTS.out, szF_snoc, hx.out, HZZ.out]; omega), ST⟩
      case measure => simp [intOf]; omega
    · have hje : j = a.txs.length := by omega
      have HQ := Lib.hid (show q = 69 + szF a.B.txs by rw [hx.out, hje, List.take_length]; rfl)
      have cc := BkA.c3 (RowC.of_blk ST.out.k)
      rcases encBF_cases a.B with ⟨hok, he⟩ | ⟨e2, he, her⟩
      · obtain ⟨hS, rfl⟩ : blkB a.B = S ∧ (0 : Int) = er := by have := HSe.out; rw [he] at this; injection this with h1 h2; exact ⟨h1, h2⟩
        have hlen : S.length = q := by rw [← hS, szF_ok hok, HQ.out]
        clear he hok hS HSe
        obtain rfl := hlen
        go_wp2
        go_ret
        exact ⟨rfl, ST.out.below⟩
      · obtain ⟨rfl, rfl⟩ : ([] : List UInt8) = S ∧ e2 = er := by have := HSe.out; rw [he] at this; injection this with h1 h2; exact ⟨h1, h2⟩
        clear he HSe HQ
        rcases her with rfl | rfl | rfl
        all_goals
          go_wp2
          go_ret
          exact ⟨rfl, ST.out.below⟩
end Go.Proofs.Ythpnmmilioonhaa
