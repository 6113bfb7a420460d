/- BlockDecodes: which block any bytes are is the document's, or its error: the statement's walk. -/
import Derived.Test.YthpnmmilioonhaaBkH
namespace Go.Proofs.Ythpnmmilioonhaa
open Go.RowKit
theorem heavy_ok {B : BlockV} (h : OkBlk B) : heavyB B = false := by
  unfold heavyB
  rw [Bool.or_eq_false_iff, decide_eq_false_iff_not, List.any_eq_false]
  refine ⟨by have := h.2.1; omega, fun T hT => ?_⟩
  obtain ⟨o1, o2, o3, o4, _⟩ := h.2.2 T hT
  simp only [decide_eq_true_eq, heavyF]
  omega
theorem decBlk_inv {l : List UInt8} {B : BlockV} (h : decBlk l = .ok B) : OkBlk B ∧ blkB B = l := by
  unfold decBlk at h
  split at h
  · cases h
  · rename_i B' r hq
    split at h
    · rename_i hr
      injection h with h
      subst h hr
      have := good_blk.bwd _ _ _ hq
      rw [List.append_nil] at this
      exact ⟨this.1, this.2.symm⟩
    · cases h
def NeR {α : Type} (R : Rd α) : Prop := ∀ s e, R s = .error e → e ≠ 0
theorem NeR.then_ {α β : Type} {R1 : Rd α} {R2 : α → Rd β} (h1 : NeR R1) (h2 : ∀ a, NeR (R2 a)) : NeR (thenR R1 R2) := by
  intro s e h
  unfold thenR at h
  split at h
  · rename_i e' hq
    injection h with h
    exact h ▸ h1 _ _ hq
  · rename_i a r hq
    split at h
    · rename_i e' hq2
      injection h with h
      exact h ▸ h2 _ _ _ hq2
    · cases h
theorem NeR.map {α β : Type} {f : α → β} {R : Rd α} (h1 : NeR R) : NeR (mapR f R) := by
  intro s e h
  unfold mapR at h
  split at h
  · rename_i e' hq
    injection h with h
    exact h ▸ h1 _ _ hq
  · cases h
theorem NeR.of {α : Type} {R : Rd α} (h : Errs R) : NeR R := fun s e q => by rcases h s e q with h | h | h <;> omega
theorem ne_num : NeR numB := by
  intro s e h
  unfold numB at h
  rcases readR_f s with ⟨er, he0, hf, _⟩ | ⟨n, r', hf, _, _⟩
  · rw [hf] at h
    have h : (Except.error er : Except Int (Nat × List UInt8)) = .error e := by rw [← h]; exact (if_neg he0).symm
    injection h with h
    omega
  · rw [hf] at h
    by_cases h0 : n = 0
    · simp [h0] at h
      omega
    · by_cases h3 : 30 < n
      · simp [h0, h3] at h
        omega
      · simp [h0, h3] at h
theorem ne_blk : NeR blkR :=
  ((NeR.of errs_key).then_ fun _ => (NeR.of errs_key).then_ fun _ => (NeR.of ((errs_get 4).map (f := toU32))).then_ fun _ => (ne_num.then_ fun n => NeR.of (errs_tx.list n)).map).map
theorem decBlk_ne {l : List UInt8} {e : Int} (h : decBlk l = .error e) : e ≠ 0 := by
  unfold decBlk at h
  split at h
  · rename_i e' hq
    injection h with h
    exact h ▸ ne_blk _ _ hq
  · split at h
    · cases h
    · injection h with h
      omega
set_option maxRecDepth 20000 in
set_option maxHeartbeats 1000000 in
theorem bkdec_walk (HE : EncBOk) (HD : DecBOk) (s : ByteArray) (w : World) (_hs : s.size ≤ maxLen) :
    Calls Try.prog 3 #[.string s] w fun e w' => e = .returned (.bool true) ∧ Below w.heap.size w w' := by
  clear _hs
  obtain ⟨l, rfl, hl⟩ := bstr_list s
  clear hl
  by_cases h1 : 8192 < l.length
  · have hd : decide ((8192 : Int) < l.length) = true := by simp; omega
    go_enter Try.func3, Try.ntmps3
    go_wp2_with fail
    refine (bshown_any HE _).mono ?_
    rintro e w1 ⟨rfl, b1⟩
    go_wp2
    go_ret
    exact ⟨rfl, b1⟩
  have hd : decide ((8192 : Int) < l.length) = false := by simp; omega
  have C1 := Lib.hid (fun w => HD l w (by omega))
  have C2 := Lib.hid (fun w => rBDec_r l (by omega) w)
  have OD := Lib.hid (fun B => decBlk_inv (l := l) (B := B))
  have NE := Lib.hid (fun e => decBlk_ne (l := l) (e := e))
  clear h1
  obtain ⟨D, hD⟩ : ∃ D, decBlk l = D := ⟨_, rfl⟩
  rw [hD] at C1 C2 OD NE
  clear hD
  obtain ⟨er, her⟩ : ∃ er, errI D = er := ⟨_, rfl⟩
  have hee : (er == er) = true := beq_self_eq_true er
  have HR := Lib.hid her
  clear her
  go_enter Try.func3, Try.ntmps3
  go_wp2_with fail
  refine (bshown_any HE _).mono ?_
  rintro e w1 ⟨rfl, b1⟩
  have B1 := Lib.hid b1
  clear b1
  go_wp2_with fail
  refine (C1.out _).mono ?_
  rintro e w2 h2
  obtain ⟨a, ha, rfl, ia, b2⟩ := h2.got
  rw [HR.out]
  have HA := Lib.hid ha
  have B2 := Lib.hid (bstep B1.out b2)
  have IA := Lib.hid ia
  clear ha b2 ia B1 h2
  go_wp2_with ((with_reducible refine at_store 3 20 ?_); refine tyBk.wpList_store rfl (.tmp 3) (.tmp 20) rfl rfl w2.heap.size a rfl rfl 28 _ (Blk.new w2 _ _) rfl ?_; intro w3 o b; have K3 := Lib.hid b; have T3 := Lib.hid (((Below.refl w2.heap.size w2).alloc (Nat.le_refl _) _).trans (o.below (by simp))); clear b o)
  refine (C2.out _).mono ?_
  rintro e w4 h4
  obtain ⟨b, hb, rfl, ib, b4⟩ := h4.got
  rw [HR.out]
  have HB := Lib.hid hb
  have T4 := Lib.hid b4
  have IB := Lib.hid ib
  clear hb b4 ib h4
  have SAB := Lib.hid (show decide (a.B = b.B) = true from decide_eq_true (HA.out.trans HB.out.symm))
  go_wp2_with (first
    | ((with_reducible refine at_store 5 25 ?_); refine tyBk.wpList_store rfl (.tmp 5) (.tmp 25) rfl rfl w4.heap.size b rfl rfl 28 _ (Blk.new w4 _ _) rfl ?_; intro w5 o b
       have K5 := Lib.hid b
       have T5 := Lib.hid (((Below.refl w4.heap.size w4).alloc (Nat.le_refl _) _).trans (o.below (by simp)))
       have S45 := Lib.hid (bstep T4.out T5.out)
       have QA := Lib.hid (below_blk S45.out K3.out K3.out.lt)
       have JA := Lib.hid (IA.out.on (bstep T3.out S45.out) (Nat.le_refl _))
       have JB := Lib.hid (IB.out.on T5.out (Nat.le_refl _))
       have BB := Lib.hid (bstep B2.out (bstep T3.out S45.out))
       clear b o T3 T4 T5 S45 K3 IA IB B2)
    | ((with_reducible refine at_loadg 3 ?_); refine tyBk.wpList_load (by rfl) (.tmp 3) rfl w2.heap.size 0 rfl a (by simpa using RowC.of_blk QA.out) ?_)
    | ((with_reducible refine at_loadg 5 ?_); refine tyBk.wpList_load (by rfl) (.tmp 5) rfl w4.heap.size 0 rfl b (by simpa using RowC.of_blk K5.out) ?_))
  refine (refSameB_any a b _ JA.out JB.out).mono ?_
  rintro e w10 ⟨rfl, b10⟩
  rw [SAB.out]
  have PA := Lib.hid (below_blk b10 QA.out QA.out.lt)
  have LA := Lib.hid (JA.out.on b10 (Nat.le_refl _))
  have BB2 := Lib.hid (bstep BB.out b10)
  clear b10 QA JA JB BB K5
  cases D with
  | error e0 =>
    have h0 : er ≠ 0 := HR.out ▸ NE.out e0 rfl
    have hd0 : (er == 0) = false := beq_eq_false_iff_ne.mpr h0
    go_wp2
    go_ret
    exact ⟨rfl, BB2.out⟩
  | ok V =>
    obtain rfl : (0 : Int) = er := HR.out
    obtain ⟨hok, hl⟩ := OD.out V rfl
    have HV := Lib.hid (show encBF a.B = (l, 0) by rw [HA.out]; show encBF V = _; rw [encBF_ok V hok, hl])
    have HL := Lib.hid (show heavyB a.B = false by rw [HA.out]; exact heavy_ok hok)
    clear hok hl hee
    go_wp2_with ((with_reducible refine at_load 3 ?_); refine tyBk.wpList_load rfl (.tmp 3) rfl w2.heap.size 0 rfl a (by simpa using RowC.of_blk PA.out) ?_)
    refine (HE a _ LA.out (midB_of HL.out)).mono ?_
    rintro e w11 ⟨rfl, b11⟩
    rw [HV.out]
    unfold encV
    have BB3 := Lib.hid (bstep BB2.out b11)
    clear b11
    go_wp2
    go_ret
    exact ⟨rfl, BB3.out⟩
end Go.Proofs.Ythpnmmilioonhaa
