/- One round of the hash: the closure over eight words and a schedule of sixteen words that goes round. -/
import Derived.Test.YtgcopgnkfokphaaDoorShaA
import Derived.Test.YtgcopgnkfokphaaDoorShaP
import Derived.Test.YtgcopgnkfokphaaDoorGenA
import Derived.StillTailTactics
namespace Go.Proofs.YtgcopgnkfokphaaDoor
open Go.RowKit
attribute [local go_sem] u32_add u32_addw u32_add3 u32_add4 u32_xor u32_and u32_or u32_not u32_not'
theorem and15 (i : Nat) (hi : i < 64) : bits BinOp.and IntKind.i64 (i : Int) 15 = ((i % 16 : Nat) : Int) := by
  rw [show (15 : Int) = ((15 : Nat) : Int) from rfl, (bits_nat .i64 8 (by decide) (fun n h1 h2 => IntWalk.i64_in _ (by omega)) i 15 (by omega) (by omega)).1, nat_mask4]
theorem and15s (i k : Nat) (hi : i < 64) (hk : k ≤ i) : bits BinOp.and IntKind.i64 ((i : Int) - (k : Int)) 15 = (((i - k) % 16 : Nat) : Int) := by
  rw [show (i : Int) - (k : Int) = ((i - k : Nat) : Int) by omega]; exact and15 (i - k) (by omega)
set_option maxRecDepth 20000 in
set_option maxHeartbeats 1000000 in
theorem round_lo (pw ph pe pf pg pa pb pc pd : Nat) (i : Nat) (hi : i < 16) (fw : Nat → BitVec 32) (kc a b c d e f g h : BitVec 32) (w : World)
    (hK : w.cell? ⟨1, i, none⟩ = some (.int .u32 (wv kc))) (_hgl : 1 < pw) (hw : Blk w pw 97 (uarr 16 fw))
    (hA : Blk w pa 22 #[.int .u32 (wv a)]) (hB : Blk w pb 22 #[.int .u32 (wv b)]) (hC : Blk w pc 22 #[.int .u32 (wv c)]) (hD : Blk w pd 22 #[.int .u32 (wv d)]) (hE : Blk w pe 22 #[.int .u32 (wv e)]) (hF : Blk w pf 22 #[.int .u32 (wv f)]) (hG : Blk w pg 22 #[.int .u32 (wv g)]) (hH : Blk w ph 22 #[.int .u32 (wv h)])
    (hp : [pa, pb, pc, pd, pe, pf, pg, ph].Nodup) :
    Calls Tryd.prog 62 #[.int .i64 i, .pointer (some ⟨pw, 0, none⟩), .pointer (some ⟨ph, 0, none⟩), .pointer (some ⟨pe, 0, none⟩), .pointer (some ⟨pf, 0, none⟩), .pointer (some ⟨pg, 0, none⟩), .pointer (some ⟨pa, 0, none⟩), .pointer (some ⟨pb, 0, none⟩), .pointer (some ⟨pc, 0, none⟩), .pointer (some ⟨pd, 0, none⟩)] w
      fun ee w' => ee = .returned (.tuple #[]) ∧ Only [pw, pa, pb, pc, pd, pe, pf, pg, ph] w w' ∧ Blk w' pw 97 (uarr 16 (ring fw i)) ∧
        Blk w' pa 22 #[.int .u32 (wv (T1 e f g h kc (ring fw i (i % 16)) + T2 a b c))] ∧ Blk w' pb 22 #[.int .u32 (wv a)] ∧ Blk w' pc 22 #[.int .u32 (wv b)] ∧ Blk w' pd 22 #[.int .u32 (wv c)] ∧
        Blk w' pe 22 #[.int .u32 (wv (d + T1 e f g h kc (ring fw i (i % 16))))] ∧ Blk w' pf 22 #[.int .u32 (wv e)] ∧ Blk w' pg 22 #[.int .u32 (wv f)] ∧ Blk w' ph 22 #[.int .u32 (wv g)] := by
  have hr : ring fw i = fw := by unfold ring; rw [if_neg (by omega)]
  have hm : bits BinOp.and IntKind.i64 (i : Int) 15 = i := by rw [and15 i (by omega), Nat.mod_eq_of_lt hi]
  have hx : w.cell? ⟨pw, i, none⟩ = _ := (hw.cell _).trans (uarr_get 16 fw _ hi)
  rw [hr, Nat.mod_eq_of_lt hi]
  clear hr
  have neab := Lib.hid (show ¬ pb = pa by intro e; simp [e] at hp)
  have neac := Lib.hid (show ¬ pc = pa by intro e; simp [e] at hp)
  have nead := Lib.hid (show ¬ pd = pa by intro e; simp [e] at hp)
  have neae := Lib.hid (show ¬ pe = pa by intro e; simp [e] at hp)
  have neaf := Lib.hid (show ¬ pf = pa by intro e; simp [e] at hp)
  have neag := Lib.hid (show ¬ pg = pa by intro e; simp [e] at hp)
  have neah := Lib.hid (show ¬ ph = pa by intro e; simp [e] at hp)
  have nebc := Lib.hid (show ¬ pc = pb by intro e; simp [e] at hp)
  have nebd := Lib.hid (show ¬ pd = pb by intro e; simp [e] at hp)
  have nebe := Lib.hid (show ¬ pe = pb by intro e; simp [e] at hp)
  have nebf := Lib.hid (show ¬ pf = pb by intro e; simp [e] at hp)
  have nebg := Lib.hid (show ¬ pg = pb by intro e; simp [e] at hp)
  have nebh := Lib.hid (show ¬ ph = pb by intro e; simp [e] at hp)
  have necd := Lib.hid (show ¬ pd = pc by intro e; simp [e] at hp)
  have nece := Lib.hid (show ¬ pe = pc by intro e; simp [e] at hp)
  have necf := Lib.hid (show ¬ pf = pc by intro e; simp [e] at hp)
  have necg := Lib.hid (show ¬ pg = pc by intro e; simp [e] at hp)
  have nech := Lib.hid (show ¬ ph = pc by intro e; simp [e] at hp)
  have nede := Lib.hid (show ¬ pe = pd by intro e; simp [e] at hp)
  have nedf := Lib.hid (show ¬ pf = pd by intro e; simp [e] at hp)
  have nedg := Lib.hid (show ¬ pg = pd by intro e; simp [e] at hp)
  have nedh := Lib.hid (show ¬ ph = pd by intro e; simp [e] at hp)
  have neef := Lib.hid (show ¬ pf = pe by intro e; simp [e] at hp)
  have neeg := Lib.hid (show ¬ pg = pe by intro e; simp [e] at hp)
  have neeh := Lib.hid (show ¬ ph = pe by intro e; simp [e] at hp)
  have nefg := Lib.hid (show ¬ pg = pf by intro e; simp [e] at hp)
  have nefh := Lib.hid (show ¬ ph = pf by intro e; simp [e] at hp)
  have negh := Lib.hid (show ¬ ph = pg by intro e; simp [e] at hp)
  have nwa := Lib.hid (hw.ne_ hA (by decide))
  have nwb := Lib.hid (hw.ne_ hB (by decide))
  have nwc := Lib.hid (hw.ne_ hC (by decide))
  have nwd := Lib.hid (hw.ne_ hD (by decide))
  have nwe := Lib.hid (hw.ne_ hE (by decide))
  have nwf := Lib.hid (hw.ne_ hF (by decide))
  have nwg := Lib.hid (hw.ne_ hG (by decide))
  have nwh := Lib.hid (hw.ne_ hH (by decide))
  clear hp
  have HA := Lib.hid hA
  have HB := Lib.hid hB
  have HC := Lib.hid hC
  have HD := Lib.hid hD
  have HE := Lib.hid hE
  have HF := Lib.hid hF
  have HG := Lib.hid hG
  have HH := Lib.hid hH
  have HW := Lib.hid hw
  clear hw hA hB hC hD hE hF hG hH
  have cA : w.cell? ⟨pa, 0, none⟩ = some (.int .u32 (wv a)) := HA.out.cell 0
  have cB : w.cell? ⟨pb, 0, none⟩ = some (.int .u32 (wv b)) := HB.out.cell 0
  have cC : w.cell? ⟨pc, 0, none⟩ = some (.int .u32 (wv c)) := HC.out.cell 0
  have cD : w.cell? ⟨pd, 0, none⟩ = some (.int .u32 (wv d)) := HD.out.cell 0
  have cE : w.cell? ⟨pe, 0, none⟩ = some (.int .u32 (wv e)) := HE.out.cell 0
  have cF : w.cell? ⟨pf, 0, none⟩ = some (.int .u32 (wv f)) := HF.out.cell 0
  have cG : w.cell? ⟨pg, 0, none⟩ = some (.int .u32 (wv g)) := HG.out.cell 0
  have cH : w.cell? ⟨ph, 0, none⟩ = some (.int .u32 (wv h)) := HH.out.cell 0
  have O0 := Lib.hid (Only.refl [pw] w)
  have hi1 := Lib.hid (show (Tryd.prog.info? 22).map (·.size) = some 1 by kernel_rfl)
  go_enter Tryd.func62, Tryd.ntmps62
  go_wp2_with fail
  go_quiet ((go_at_call 65; exact Calls.quiet_of_same (rot_quiet _ _ (by omega) (by omega) _)))
  simp only [show IntKind.u32.signed = false from rfl, if_false, Bool.false_eq_true, u32_not, u32_and, u32_xor, u32_add3, u32_add, T1_eq]
  generalize hW : World.drewN _ _ = W0
  replace cA : W0.cell? ⟨pa, 0, none⟩ = some (.int .u32 (wv a)) := by rw [← hW]; exact cA
  replace cB : W0.cell? ⟨pb, 0, none⟩ = some (.int .u32 (wv b)) := by rw [← hW]; exact cB
  replace cC : W0.cell? ⟨pc, 0, none⟩ = some (.int .u32 (wv c)) := by rw [← hW]; exact cC
  replace cD : W0.cell? ⟨pd, 0, none⟩ = some (.int .u32 (wv d)) := by rw [← hW]; exact cD
  replace cE : W0.cell? ⟨pe, 0, none⟩ = some (.int .u32 (wv e)) := by rw [← hW]; exact cE
  replace cF : W0.cell? ⟨pf, 0, none⟩ = some (.int .u32 (wv f)) := by rw [← hW]; exact cF
  replace cG : W0.cell? ⟨pg, 0, none⟩ = some (.int .u32 (wv g)) := by rw [← hW]; exact cG
  replace cH : W0.cell? ⟨ph, 0, none⟩ = some (.int .u32 (wv h)) := by rw [← hW]; exact cH
  replace HA : Hid (Blk W0 pa 22 #[.int .u32 (wv a)]) := by rw [← hW]; exact HA.out
  replace HB : Hid (Blk W0 pb 22 #[.int .u32 (wv b)]) := by rw [← hW]; exact HB.out
  replace HC : Hid (Blk W0 pc 22 #[.int .u32 (wv c)]) := by rw [← hW]; exact HC.out
  replace HD : Hid (Blk W0 pd 22 #[.int .u32 (wv d)]) := by rw [← hW]; exact HD.out
  replace HE : Hid (Blk W0 pe 22 #[.int .u32 (wv e)]) := by rw [← hW]; exact HE.out
  replace HF : Hid (Blk W0 pf 22 #[.int .u32 (wv f)]) := by rw [← hW]; exact HF.out
  replace HG : Hid (Blk W0 pg 22 #[.int .u32 (wv g)]) := by rw [← hW]; exact HG.out
  replace HH : Hid (Blk W0 ph 22 #[.int .u32 (wv h)]) := by rw [← hW]; exact HH.out
  replace HW : Hid (Blk W0 pw 97 (uarr 16 fw)) := by rw [← hW]; exact HW.out
  replace O0 := Lib.hid (show Only [pw] w W0 by rw [← hW]; exact O0.out.drewN _)
  clear hW hK hx
  go_wp2_with fail
  go_quiet ((go_at_call 65; exact Calls.quiet_of_same (rot_quiet _ _ (by omega) (by omega) _)))
  simp only [T2_eq]
  generalize hW : W0.drewN _ = W
  replace cA : W.cell? ⟨pa, 0, none⟩ = some (.int .u32 (wv a)) := by rw [← hW]; exact cA
  replace cB : W.cell? ⟨pb, 0, none⟩ = some (.int .u32 (wv b)) := by rw [← hW]; exact cB
  replace cC : W.cell? ⟨pc, 0, none⟩ = some (.int .u32 (wv c)) := by rw [← hW]; exact cC
  replace cD : W.cell? ⟨pd, 0, none⟩ = some (.int .u32 (wv d)) := by rw [← hW]; exact cD
  replace cE : W.cell? ⟨pe, 0, none⟩ = some (.int .u32 (wv e)) := by rw [← hW]; exact cE
  replace cF : W.cell? ⟨pf, 0, none⟩ = some (.int .u32 (wv f)) := by rw [← hW]; exact cF
  replace cG : W.cell? ⟨pg, 0, none⟩ = some (.int .u32 (wv g)) := by rw [← hW]; exact cG
  replace cH : W.cell? ⟨ph, 0, none⟩ = some (.int .u32 (wv h)) := by rw [← hW]; exact cH
  replace HA : Hid (Blk W pa 22 #[.int .u32 (wv a)]) := by rw [← hW]; exact HA.out
  replace HB : Hid (Blk W pb 22 #[.int .u32 (wv b)]) := by rw [← hW]; exact HB.out
  replace HC : Hid (Blk W pc 22 #[.int .u32 (wv c)]) := by rw [← hW]; exact HC.out
  replace HD : Hid (Blk W pd 22 #[.int .u32 (wv d)]) := by rw [← hW]; exact HD.out
  replace HE : Hid (Blk W pe 22 #[.int .u32 (wv e)]) := by rw [← hW]; exact HE.out
  replace HF : Hid (Blk W pf 22 #[.int .u32 (wv f)]) := by rw [← hW]; exact HF.out
  replace HG : Hid (Blk W pg 22 #[.int .u32 (wv g)]) := by rw [← hW]; exact HG.out
  replace HH : Hid (Blk W ph 22 #[.int .u32 (wv h)]) := by rw [← hW]; exact HH.out
  replace HW : Hid (Blk W pw 97 (uarr 16 fw)) := by rw [← hW]; exact HW.out
  replace O0 := Lib.hid (show Only [pw] w W by rw [← hW]; exact O0.out.drewN _)
  clear hW
  go_wp2_with (first
    | ((with_reducible refine at_store 6 90 ?_); refine wpList_store_blk rfl 22 (.tmp 6) (.tmp 90) rfl rfl pa (.int .u32 (wv (T1 e f g h kc (fw i) + T2 a b c))) rfl rfl rfl 22 _ HA.out hi1.out ?_; intro w1 o1 b1; clear cA cB cC cD cE cF cG cH)
    | ((with_reducible refine at_store 7 91 ?_); refine wpList_store_blk rfl 22 (.tmp 7) (.tmp 91) rfl rfl pb (.int .u32 (wv a)) rfl rfl rfl 22 _ (o1.blk HB.out (by simpa using neab.out)) hi1.out ?_; intro w2 o2 b2)
    | ((with_reducible refine at_store 8 92 ?_); refine wpList_store_blk rfl 22 (.tmp 8) (.tmp 92) rfl rfl pc (.int .u32 (wv b)) rfl rfl rfl 22 _ (o2.blk (o1.blk HC.out (by simpa using neac.out)) (by simpa using nebc.out)) hi1.out ?_; intro w3 o3 b3)
    | ((with_reducible refine at_store 9 93 ?_); refine wpList_store_blk rfl 22 (.tmp 9) (.tmp 93) rfl rfl pd (.int .u32 (wv c)) rfl rfl rfl 22 _ (o3.blk (o2.blk (o1.blk HD.out (by simpa using nead.out)) (by simpa using nebd.out)) (by simpa using necd.out)) hi1.out ?_; intro w4 o4 b4)
    | ((with_reducible refine at_store 3 96 ?_); refine wpList_store_blk rfl 22 (.tmp 3) (.tmp 96) rfl rfl pe (.int .u32 (wv (d + T1 e f g h kc (fw i)))) rfl rfl rfl 22 _ (o4.blk (o3.blk (o2.blk (o1.blk HE.out (by simpa using neae.out)) (by simpa using nebe.out)) (by simpa using nece.out)) (by simpa using nede.out)) hi1.out ?_; intro w5 o5 b5)
    | ((with_reducible refine at_store 4 97 ?_); refine wpList_store_blk rfl 22 (.tmp 4) (.tmp 97) rfl rfl pf (.int .u32 (wv e)) rfl rfl rfl 22 _ (o5.blk (o4.blk (o3.blk (o2.blk (o1.blk HF.out (by simpa using neaf.out)) (by simpa using nebf.out)) (by simpa using necf.out)) (by simpa using nedf.out)) (by simpa using neef.out)) hi1.out ?_; intro w6 o6 b6)
    | ((with_reducible refine at_store 5 98 ?_); refine wpList_store_blk rfl 22 (.tmp 5) (.tmp 98) rfl rfl pg (.int .u32 (wv f)) rfl rfl rfl 22 _ (o6.blk (o5.blk (o4.blk (o3.blk (o2.blk (o1.blk HG.out (by simpa using neag.out)) (by simpa using nebg.out)) (by simpa using necg.out)) (by simpa using nedg.out)) (by simpa using neeg.out)) (by simpa using nefg.out)) hi1.out ?_; intro w7 o7 b7)
    | ((with_reducible refine at_store 2 99 ?_); refine wpList_store_blk rfl 22 (.tmp 2) (.tmp 99) rfl rfl ph (.int .u32 (wv g)) rfl rfl rfl 22 _ (o7.blk (o6.blk (o5.blk (o4.blk (o3.blk (o2.blk (o1.blk HH.out (by simpa using neah.out)) (by simpa using nebh.out)) (by simpa using nech.out)) (by simpa using nedh.out)) (by simpa using neeh.out)) (by simpa using nefh.out)) (by simpa using negh.out)) hi1.out ?_; intro w8 o8 b8)
  )
  go_end0
  have OO : Only [pw, pa, pb, pc, pd, pe, pf, pg, ph] w w8 := (((((((((O0.out.mono (by simp)).trans (o1.mono (by simp))).trans (o2.mono (by simp))).trans (o3.mono (by simp))).trans (o4.mono (by simp))).trans (o5.mono (by simp))).trans (o6.mono (by simp))).trans (o7.mono (by simp))).trans (o8.mono (by simp)))
  have BW : Blk w8 pw 97 (uarr 16 fw) := (o8.blk (o7.blk (o6.blk (o5.blk (o4.blk (o3.blk (o2.blk (o1.blk HW.out (by simpa using nwa.out)) (by simpa using nwb.out)) (by simpa using nwc.out)) (by simpa using nwd.out)) (by simpa using nwe.out)) (by simpa using nwf.out)) (by simpa using nwg.out)) (by simpa using nwh.out))
  exact ⟨rfl, OO, BW, (o8.blk (o7.blk (o6.blk (o5.blk (o4.blk (o3.blk (o2.blk b1 (by simpa using fun e => neab.out e.symm)) (by simpa using fun e => neac.out e.symm)) (by simpa using fun e => nead.out e.symm)) (by simpa using fun e => neae.out e.symm)) (by simpa using fun e => neaf.out e.symm)) (by simpa using fun e => neag.out e.symm)) (by simpa using fun e => neah.out e.symm)), (o8.blk (o7.blk (o6.blk (o5.blk (o4.blk (o3.blk b2 (by simpa using fun e => nebc.out e.symm)) (by simpa using fun e => nebd.out e.symm)) (by simpa using fun e => nebe.out e.symm)) (by simpa using fun e => nebf.out e.symm)) (by simpa using fun e => nebg.out e.symm)) (by simpa using fun e => nebh.out e.symm)), (o8.blk (o7.blk (o6.blk (o5.blk (o4.blk b3 (by simpa using fun e => necd.out e.symm)) (by simpa using fun e => nece.out e.symm)) (by simpa using fun e => necf.out e.symm)) (by simpa using fun e => necg.out e.symm)) (by simpa using fun e => nech.out e.symm)), (o8.blk (o7.blk (o6.blk (o5.blk b4 (by simpa using fun e => nede.out e.symm)) (by simpa using fun e => nedf.out e.symm)) (by simpa using fun e => nedg.out e.symm)) (by simpa using fun e => nedh.out e.symm)), (o8.blk (o7.blk (o6.blk b5 (by simpa using fun e => neef.out e.symm)) (by simpa using fun e => neeg.out e.symm)) (by simpa using fun e => neeh.out e.symm)), (o8.blk (o7.blk b6 (by simpa using fun e => nefg.out e.symm)) (by simpa using fun e => nefh.out e.symm)), (o8.blk b7 (by simpa using fun e => negh.out e.symm)), b8⟩
set_option maxRecDepth 20000 in
set_option maxHeartbeats 1000000 in
theorem round_hi (pw ph pe pf pg pa pb pc pd : Nat) (i : Nat) (h16 : 16 ≤ i) (hi : i < 64) (fw : Nat → BitVec 32) (kc a b c d e f g h : BitVec 32) (w : World)
    (hK : w.cell? ⟨1, i, none⟩ = some (.int .u32 (wv kc))) (hgl : 1 < pw) (hw : Blk w pw 97 (uarr 16 fw))
    (hA : Blk w pa 22 #[.int .u32 (wv a)]) (hB : Blk w pb 22 #[.int .u32 (wv b)]) (hC : Blk w pc 22 #[.int .u32 (wv c)]) (hD : Blk w pd 22 #[.int .u32 (wv d)]) (hE : Blk w pe 22 #[.int .u32 (wv e)]) (hF : Blk w pf 22 #[.int .u32 (wv f)]) (hG : Blk w pg 22 #[.int .u32 (wv g)]) (hH : Blk w ph 22 #[.int .u32 (wv h)])
    (hp : [pa, pb, pc, pd, pe, pf, pg, ph].Nodup) :
    Calls Tryd.prog 62 #[.int .i64 i, .pointer (some ⟨pw, 0, none⟩), .pointer (some ⟨ph, 0, none⟩), .pointer (some ⟨pe, 0, none⟩), .pointer (some ⟨pf, 0, none⟩), .pointer (some ⟨pg, 0, none⟩), .pointer (some ⟨pa, 0, none⟩), .pointer (some ⟨pb, 0, none⟩), .pointer (some ⟨pc, 0, none⟩), .pointer (some ⟨pd, 0, none⟩)] w
      fun ee w' => ee = .returned (.tuple #[]) ∧ Only [pw, pa, pb, pc, pd, pe, pf, pg, ph] w w' ∧ Blk w' pw 97 (uarr 16 (ring fw i)) ∧
        Blk w' pa 22 #[.int .u32 (wv (T1 e f g h kc (ring fw i (i % 16)) + T2 a b c))] ∧ Blk w' pb 22 #[.int .u32 (wv a)] ∧ Blk w' pc 22 #[.int .u32 (wv b)] ∧ Blk w' pd 22 #[.int .u32 (wv c)] ∧
        Blk w' pe 22 #[.int .u32 (wv (d + T1 e f g h kc (ring fw i (i % 16))))] ∧ Blk w' pf 22 #[.int .u32 (wv e)] ∧ Blk w' pg 22 #[.int .u32 (wv f)] ∧ Blk w' ph 22 #[.int .u32 (wv g)] := by
  have hm15 : bits BinOp.and IntKind.i64 (IntKind.i64.wrap ((i : Int) - 15)) 15 = (((i - 15) % 16 : Nat) : Int) := by rw [IntWalk.i64_in _ (by omega)]; exact and15s i 15 hi (by omega)
  have hm7 : bits BinOp.and IntKind.i64 (IntKind.i64.wrap ((i : Int) - 7)) 15 = (((i - 7) % 16 : Nat) : Int) := by rw [IntWalk.i64_in _ (by omega)]; exact and15s i 7 hi (by omega)
  have hm2 : bits BinOp.and IntKind.i64 (IntKind.i64.wrap ((i : Int) - 2)) 15 = (((i - 2) % 16 : Nat) : Int) := by rw [IntWalk.i64_in _ (by omega)]; exact and15s i 2 hi (by omega)
  have z15 : (i - 15) % 16 < 16 := Nat.mod_lt _ (by omega)
  have c15 : w.cell? ⟨pw, (i - 15) % 16, none⟩ = _ := (hw.cell _).trans (uarr_get 16 fw _ z15)
  have z7 : (i - 7) % 16 < 16 := Nat.mod_lt _ (by omega)
  have c7 : w.cell? ⟨pw, (i - 7) % 16, none⟩ = _ := (hw.cell _).trans (uarr_get 16 fw _ z7)
  have z2 : (i - 2) % 16 < 16 := Nat.mod_lt _ (by omega)
  have c2 : w.cell? ⟨pw, (i - 2) % 16, none⟩ = _ := (hw.cell _).trans (uarr_get 16 fw _ z2)
  have hm := and15 i hi
  have z0 : i % 16 < 16 := Nat.mod_lt _ (by omega)
  have c0 : w.cell? ⟨pw, i % 16, none⟩ = _ := (hw.cell _).trans (uarr_get 16 fw _ z0)
  have f0 : w.frozen? ⟨pw, i % 16, none⟩ = false := hw.frozen _
  have hr : ring fw i = upd fw (i % 16) (sched fw i) := by unfold ring; rw [if_pos h16]
  obtain ⟨sc, hs⟩ : ∃ sc, sched fw i = sc := ⟨_, rfl⟩
  rw [hr, hs]
  unfold sched at hs
  have HS := Lib.hid hs
  rw [show upd fw (i % 16) sc (i % 16) = sc by simp [upd]]
  clear hr hs
  generalize i % 16 = j0 at *
  generalize (i - 15) % 16 = j15 at *
  generalize (i - 7) % 16 = j7 at *
  generalize (i - 2) % 16 = j2 at *
  have y0 : (j0 : Int) < 16 := by omega
  have y15 : (j15 : Int) < 16 := by omega
  have y7 : (j7 : Int) < 16 := by omega
  have y2 : (j2 : Int) < 16 := by omega
  have neab := Lib.hid (show ¬ pb = pa by intro e; simp [e] at hp)
  have neac := Lib.hid (show ¬ pc = pa by intro e; simp [e] at hp)
  have nead := Lib.hid (show ¬ pd = pa by intro e; simp [e] at hp)
  have neae := Lib.hid (show ¬ pe = pa by intro e; simp [e] at hp)
  have neaf := Lib.hid (show ¬ pf = pa by intro e; simp [e] at hp)
  have neag := Lib.hid (show ¬ pg = pa by intro e; simp [e] at hp)
  have neah := Lib.hid (show ¬ ph = pa by intro e; simp [e] at hp)
  have nebc := Lib.hid (show ¬ pc = pb by intro e; simp [e] at hp)
  have nebd := Lib.hid (show ¬ pd = pb by intro e; simp [e] at hp)
  have nebe := Lib.hid (show ¬ pe = pb by intro e; simp [e] at hp)
  have nebf := Lib.hid (show ¬ pf = pb by intro e; simp [e] at hp)
  have nebg := Lib.hid (show ¬ pg = pb by intro e; simp [e] at hp)
  have nebh := Lib.hid (show ¬ ph = pb by intro e; simp [e] at hp)
  have necd := Lib.hid (show ¬ pd = pc by intro e; simp [e] at hp)
  have nece := Lib.hid (show ¬ pe = pc by intro e; simp [e] at hp)
  have necf := Lib.hid (show ¬ pf = pc by intro e; simp [e] at hp)
  have necg := Lib.hid (show ¬ pg = pc by intro e; simp [e] at hp)
  have nech := Lib.hid (show ¬ ph = pc by intro e; simp [e] at hp)
  have nede := Lib.hid (show ¬ pe = pd by intro e; simp [e] at hp)
  have nedf := Lib.hid (show ¬ pf = pd by intro e; simp [e] at hp)
  have nedg := Lib.hid (show ¬ pg = pd by intro e; simp [e] at hp)
  have nedh := Lib.hid (show ¬ ph = pd by intro e; simp [e] at hp)
  have neef := Lib.hid (show ¬ pf = pe by intro e; simp [e] at hp)
  have neeg := Lib.hid (show ¬ pg = pe by intro e; simp [e] at hp)
  have neeh := Lib.hid (show ¬ ph = pe by intro e; simp [e] at hp)
  have nefg := Lib.hid (show ¬ pg = pf by intro e; simp [e] at hp)
  have nefh := Lib.hid (show ¬ ph = pf by intro e; simp [e] at hp)
  have negh := Lib.hid (show ¬ ph = pg by intro e; simp [e] at hp)
  have nwa := Lib.hid (hw.ne_ hA (by decide))
  have nwb := Lib.hid (hw.ne_ hB (by decide))
  have nwc := Lib.hid (hw.ne_ hC (by decide))
  have nwd := Lib.hid (hw.ne_ hD (by decide))
  have nwe := Lib.hid (hw.ne_ hE (by decide))
  have nwf := Lib.hid (hw.ne_ hF (by decide))
  have nwg := Lib.hid (hw.ne_ hG (by decide))
  have nwh := Lib.hid (hw.ne_ hH (by decide))
  clear hp
  have HA := Lib.hid hA
  have HB := Lib.hid hB
  have HC := Lib.hid hC
  have HD := Lib.hid hD
  have HE := Lib.hid hE
  have HF := Lib.hid hF
  have HG := Lib.hid hG
  have HH := Lib.hid hH
  have HW := Lib.hid hw
  clear hw hA hB hC hD hE hF hG hH
  have hi1 := Lib.hid (show (Tryd.prog.info? 22).map (·.size) = some 1 by kernel_rfl)
  go_enter Tryd.func62, Tryd.ntmps62
  go_wp2_with fail
  refine wp_region_still_tail 25 (by kernel_rfl) (by kernel_rfl) ?_
  simp only [List.take_succ_cons, List.take_zero, List.drop_succ_cons, List.drop_zero]
  repeat still_step
  still_call ((early_any _ _).mono fun _ _ h => ⟨h.1, h.2.symm⟩)
  repeat still_step
  still_call ((late_any _ _).mono fun _ _ h => ⟨h.1, h.2.symm⟩)
  repeat still_step
  refine wpStill_nil ?_
  clear c15 c7 c2
  change wpList _ _ _ _ _ w.drew
  rw [HS.out]
  go_wp2_with ((with_reducible refine at_store 39 38 ?_); refine wpList_store_cell rfl 22 (.tmp 39) (.tmp 38) rfl rfl pw j0 (.int .u32 (wv sc)) rfl rfl rfl 97 _ (HW.out.drew) (by rw [uarr_size]; exact z0) hi1.out ?_; intro W1 o1 b1)
  rw [uarr_set] at b1
  clear f0 c0
  have hx : W1.cell? ⟨pw, j0, none⟩ = some (.int .u32 (wv sc)) := (b1.cell _).trans ((uarr_get 16 _ _ z0).trans (by simp [upd]))
  replace hK : W1.cell? ⟨1, i, none⟩ = some (.int .u32 (wv kc)) := (o1.cell (by simp; omega)).trans hK
  have O0 := Lib.hid ((Only.refl [pw] w).drew.trans o1)
  replace HW := Lib.hid b1
  replace HA := Lib.hid (o1.blk HA.out.drew (by simpa using fun e => nwa.out e.symm))
  replace HB := Lib.hid (o1.blk HB.out.drew (by simpa using fun e => nwb.out e.symm))
  replace HC := Lib.hid (o1.blk HC.out.drew (by simpa using fun e => nwc.out e.symm))
  replace HD := Lib.hid (o1.blk HD.out.drew (by simpa using fun e => nwd.out e.symm))
  replace HE := Lib.hid (o1.blk HE.out.drew (by simpa using fun e => nwe.out e.symm))
  replace HF := Lib.hid (o1.blk HF.out.drew (by simpa using fun e => nwf.out e.symm))
  replace HG := Lib.hid (o1.blk HG.out.drew (by simpa using fun e => nwg.out e.symm))
  replace HH := Lib.hid (o1.blk HH.out.drew (by simpa using fun e => nwh.out e.symm))
  clear o1 b1 z0
  have cA : W1.cell? ⟨pa, 0, none⟩ = some (.int .u32 (wv a)) := HA.out.cell 0
  have cB : W1.cell? ⟨pb, 0, none⟩ = some (.int .u32 (wv b)) := HB.out.cell 0
  have cC : W1.cell? ⟨pc, 0, none⟩ = some (.int .u32 (wv c)) := HC.out.cell 0
  have cD : W1.cell? ⟨pd, 0, none⟩ = some (.int .u32 (wv d)) := HD.out.cell 0
  have cE : W1.cell? ⟨pe, 0, none⟩ = some (.int .u32 (wv e)) := HE.out.cell 0
  have cF : W1.cell? ⟨pf, 0, none⟩ = some (.int .u32 (wv f)) := HF.out.cell 0
  have cG : W1.cell? ⟨pg, 0, none⟩ = some (.int .u32 (wv g)) := HG.out.cell 0
  have cH : W1.cell? ⟨ph, 0, none⟩ = some (.int .u32 (wv h)) := HH.out.cell 0
  go_wp2_with fail
  go_quiet ((go_at_call 65; exact Calls.quiet_of_same (rot_quiet _ _ (by omega) (by omega) _)))
  simp only [show IntKind.u32.signed = false from rfl, if_false, Bool.false_eq_true, u32_not, u32_and, u32_xor, u32_add3, u32_add, T1_eq]
  generalize hW : World.drewN _ _ = W0
  replace cA : W0.cell? ⟨pa, 0, none⟩ = some (.int .u32 (wv a)) := by rw [← hW]; exact cA
  replace cB : W0.cell? ⟨pb, 0, none⟩ = some (.int .u32 (wv b)) := by rw [← hW]; exact cB
  replace cC : W0.cell? ⟨pc, 0, none⟩ = some (.int .u32 (wv c)) := by rw [← hW]; exact cC
  replace cD : W0.cell? ⟨pd, 0, none⟩ = some (.int .u32 (wv d)) := by rw [← hW]; exact cD
  replace cE : W0.cell? ⟨pe, 0, none⟩ = some (.int .u32 (wv e)) := by rw [← hW]; exact cE
  replace cF : W0.cell? ⟨pf, 0, none⟩ = some (.int .u32 (wv f)) := by rw [← hW]; exact cF
  replace cG : W0.cell? ⟨pg, 0, none⟩ = some (.int .u32 (wv g)) := by rw [← hW]; exact cG
  replace cH : W0.cell? ⟨ph, 0, none⟩ = some (.int .u32 (wv h)) := by rw [← hW]; exact cH
  replace HA : Hid (Blk W0 pa 22 #[.int .u32 (wv a)]) := by rw [← hW]; exact HA.out
  replace HB : Hid (Blk W0 pb 22 #[.int .u32 (wv b)]) := by rw [← hW]; exact HB.out
  replace HC : Hid (Blk W0 pc 22 #[.int .u32 (wv c)]) := by rw [← hW]; exact HC.out
  replace HD : Hid (Blk W0 pd 22 #[.int .u32 (wv d)]) := by rw [← hW]; exact HD.out
  replace HE : Hid (Blk W0 pe 22 #[.int .u32 (wv e)]) := by rw [← hW]; exact HE.out
  replace HF : Hid (Blk W0 pf 22 #[.int .u32 (wv f)]) := by rw [← hW]; exact HF.out
  replace HG : Hid (Blk W0 pg 22 #[.int .u32 (wv g)]) := by rw [← hW]; exact HG.out
  replace HH : Hid (Blk W0 ph 22 #[.int .u32 (wv h)]) := by rw [← hW]; exact HH.out
  replace HW : Hid (Blk W0 pw 97 (uarr 16 (upd fw j0 sc))) := by rw [← hW]; exact HW.out
  replace O0 := Lib.hid (show Only [pw] w W0 by rw [← hW]; exact O0.out.drewN _)
  clear hW hK hx
  go_wp2_with fail
  go_quiet ((go_at_call 65; exact Calls.quiet_of_same (rot_quiet _ _ (by omega) (by omega) _)))
  simp only [T2_eq]
  generalize hW : W0.drewN _ = W
  replace cA : W.cell? ⟨pa, 0, none⟩ = some (.int .u32 (wv a)) := by rw [← hW]; exact cA
  replace cB : W.cell? ⟨pb, 0, none⟩ = some (.int .u32 (wv b)) := by rw [← hW]; exact cB
  replace cC : W.cell? ⟨pc, 0, none⟩ = some (.int .u32 (wv c)) := by rw [← hW]; exact cC
  replace cD : W.cell? ⟨pd, 0, none⟩ = some (.int .u32 (wv d)) := by rw [← hW]; exact cD
  replace cE : W.cell? ⟨pe, 0, none⟩ = some (.int .u32 (wv e)) := by rw [← hW]; exact cE
  replace cF : W.cell? ⟨pf, 0, none⟩ = some (.int .u32 (wv f)) := by rw [← hW]; exact cF
  replace cG : W.cell? ⟨pg, 0, none⟩ = some (.int .u32 (wv g)) := by rw [← hW]; exact cG
  replace cH : W.cell? ⟨ph, 0, none⟩ = some (.int .u32 (wv h)) := by rw [← hW]; exact cH
  replace HA : Hid (Blk W pa 22 #[.int .u32 (wv a)]) := by rw [← hW]; exact HA.out
  replace HB : Hid (Blk W pb 22 #[.int .u32 (wv b)]) := by rw [← hW]; exact HB.out
  replace HC : Hid (Blk W pc 22 #[.int .u32 (wv c)]) := by rw [← hW]; exact HC.out
  replace HD : Hid (Blk W pd 22 #[.int .u32 (wv d)]) := by rw [← hW]; exact HD.out
  replace HE : Hid (Blk W pe 22 #[.int .u32 (wv e)]) := by rw [← hW]; exact HE.out
  replace HF : Hid (Blk W pf 22 #[.int .u32 (wv f)]) := by rw [← hW]; exact HF.out
  replace HG : Hid (Blk W pg 22 #[.int .u32 (wv g)]) := by rw [← hW]; exact HG.out
  replace HH : Hid (Blk W ph 22 #[.int .u32 (wv h)]) := by rw [← hW]; exact HH.out
  replace HW : Hid (Blk W pw 97 (uarr 16 (upd fw j0 sc))) := by rw [← hW]; exact HW.out
  replace O0 := Lib.hid (show Only [pw] w W by rw [← hW]; exact O0.out.drewN _)
  clear hW
  go_wp2_with (first
    | ((with_reducible refine at_store 6 90 ?_); refine wpList_store_blk rfl 22 (.tmp 6) (.tmp 90) rfl rfl pa (.int .u32 (wv (T1 e f g h kc sc + T2 a b c))) rfl rfl rfl 22 _ HA.out hi1.out ?_; intro w1 o1 b1; clear cA cB cC cD cE cF cG cH)
    | ((with_reducible refine at_store 7 91 ?_); refine wpList_store_blk rfl 22 (.tmp 7) (.tmp 91) rfl rfl pb (.int .u32 (wv a)) rfl rfl rfl 22 _ (o1.blk HB.out (by simpa using neab.out)) hi1.out ?_; intro w2 o2 b2)
    | ((with_reducible refine at_store 8 92 ?_); refine wpList_store_blk rfl 22 (.tmp 8) (.tmp 92) rfl rfl pc (.int .u32 (wv b)) rfl rfl rfl 22 _ (o2.blk (o1.blk HC.out (by simpa using neac.out)) (by simpa using nebc.out)) hi1.out ?_; intro w3 o3 b3)
    | ((with_reducible refine at_store 9 93 ?_); refine wpList_store_blk rfl 22 (.tmp 9) (.tmp 93) rfl rfl pd (.int .u32 (wv c)) rfl rfl rfl 22 _ (o3.blk (o2.blk (o1.blk HD.out (by simpa using nead.out)) (by simpa using nebd.out)) (by simpa using necd.out)) hi1.out ?_; intro w4 o4 b4)
    | ((with_reducible refine at_store 3 96 ?_); refine wpList_store_blk rfl 22 (.tmp 3) (.tmp 96) rfl rfl pe (.int .u32 (wv (d + T1 e f g h kc sc))) rfl rfl rfl 22 _ (o4.blk (o3.blk (o2.blk (o1.blk HE.out (by simpa using neae.out)) (by simpa using nebe.out)) (by simpa using nece.out)) (by simpa using nede.out)) hi1.out ?_; intro w5 o5 b5)
    | ((with_reducible refine at_store 4 97 ?_); refine wpList_store_blk rfl 22 (.tmp 4) (.tmp 97) rfl rfl pf (.int .u32 (wv e)) rfl rfl rfl 22 _ (o5.blk (o4.blk (o3.blk (o2.blk (o1.blk HF.out (by simpa using neaf.out)) (by simpa using nebf.out)) (by simpa using necf.out)) (by simpa using nedf.out)) (by simpa using neef.out)) hi1.out ?_; intro w6 o6 b6)
    | ((with_reducible refine at_store 5 98 ?_); refine wpList_store_blk rfl 22 (.tmp 5) (.tmp 98) rfl rfl pg (.int .u32 (wv f)) rfl rfl rfl 22 _ (o6.blk (o5.blk (o4.blk (o3.blk (o2.blk (o1.blk HG.out (by simpa using neag.out)) (by simpa using nebg.out)) (by simpa using necg.out)) (by simpa using nedg.out)) (by simpa using neeg.out)) (by simpa using nefg.out)) hi1.out ?_; intro w7 o7 b7)
    | ((with_reducible refine at_store 2 99 ?_); refine wpList_store_blk rfl 22 (.tmp 2) (.tmp 99) rfl rfl ph (.int .u32 (wv g)) rfl rfl rfl 22 _ (o7.blk (o6.blk (o5.blk (o4.blk (o3.blk (o2.blk (o1.blk HH.out (by simpa using neah.out)) (by simpa using nebh.out)) (by simpa using nech.out)) (by simpa using nedh.out)) (by simpa using neeh.out)) (by simpa using nefh.out)) (by simpa using negh.out)) hi1.out ?_; intro w8 o8 b8)
  )
  go_end0
  have OO : Only [pw, pa, pb, pc, pd, pe, pf, pg, ph] w w8 := (((((((((O0.out.mono (by simp)).trans (o1.mono (by simp))).trans (o2.mono (by simp))).trans (o3.mono (by simp))).trans (o4.mono (by simp))).trans (o5.mono (by simp))).trans (o6.mono (by simp))).trans (o7.mono (by simp))).trans (o8.mono (by simp)))
  have BW : Blk w8 pw 97 (uarr 16 (upd fw j0 sc)) := (o8.blk (o7.blk (o6.blk (o5.blk (o4.blk (o3.blk (o2.blk (o1.blk HW.out (by simpa using nwa.out)) (by simpa using nwb.out)) (by simpa using nwc.out)) (by simpa using nwd.out)) (by simpa using nwe.out)) (by simpa using nwf.out)) (by simpa using nwg.out)) (by simpa using nwh.out))
  exact ⟨rfl, OO, BW, (o8.blk (o7.blk (o6.blk (o5.blk (o4.blk (o3.blk (o2.blk b1 (by simpa using fun e => neab.out e.symm)) (by simpa using fun e => neac.out e.symm)) (by simpa using fun e => nead.out e.symm)) (by simpa using fun e => neae.out e.symm)) (by simpa using fun e => neaf.out e.symm)) (by simpa using fun e => neag.out e.symm)) (by simpa using fun e => neah.out e.symm)), (o8.blk (o7.blk (o6.blk (o5.blk (o4.blk (o3.blk b2 (by simpa using fun e => nebc.out e.symm)) (by simpa using fun e => nebd.out e.symm)) (by simpa using fun e => nebe.out e.symm)) (by simpa using fun e => nebf.out e.symm)) (by simpa using fun e => nebg.out e.symm)) (by simpa using fun e => nebh.out e.symm)), (o8.blk (o7.blk (o6.blk (o5.blk (o4.blk b3 (by simpa using fun e => necd.out e.symm)) (by simpa using fun e => nece.out e.symm)) (by simpa using fun e => necf.out e.symm)) (by simpa using fun e => necg.out e.symm)) (by simpa using fun e => nech.out e.symm)), (o8.blk (o7.blk (o6.blk (o5.blk b4 (by simpa using fun e => nede.out e.symm)) (by simpa using fun e => nedf.out e.symm)) (by simpa using fun e => nedg.out e.symm)) (by simpa using fun e => nedh.out e.symm)), (o8.blk (o7.blk (o6.blk b5 (by simpa using fun e => neef.out e.symm)) (by simpa using fun e => neeg.out e.symm)) (by simpa using fun e => neeh.out e.symm)), (o8.blk (o7.blk b6 (by simpa using fun e => nefg.out e.symm)) (by simpa using fun e => nefh.out e.symm)), (o8.blk b7 (by simpa using fun e => negh.out e.symm)), b8⟩
end Go.Proofs.YtgcopgnkfokphaaDoor
