/- The project's Apply and Undo. Written by genCoPY.py. -/
import Derived.Test.YtkjgmhamglhggaaCoPX
import Derived.Test.YtkjgmhamglhggaaCoRv
namespace Go.Proofs.Ytkjgmhamglhggaa
open Go.RowKit
theorem builtSet (t : TypeId) (ht : t = 79) (A : Option Addr) (n c gf : Nat) (cb : Array Value) : Try.prog.built t [(0, .slice A n c), (2, .func (.func gf) #[] cb)] = some #[.slice A n c, .slice none 0 0, .func (.func gf) #[] cb] := by
  subst ht
  kernel_rfl
theorem pOf_any (A : Option Addr) (c : Nat) (l : List CoinV) (gf : Nat) (cb : Array Value) (w : World) (hl : RowIn encC 68 w w.heap.size A c l) (hn : l.length ≤ 1000) :
    Calls Try.prog 24 #[.slice A l.length c, .func (.func gf) #[] cb] w fun e w' => ∃ g v1, e = .returned (.pointer (some ⟨g, 0, none⟩)) ∧ SetV w.heap.size g (.func (.func gf) #[] cb) v1 (.slice none 0 0) l [] w' ∧ Below w.heap.size w w' := by
  have HC := Lib.hid (cClone_any A c l w.heap.size w (by omega) (Nat.le_refl _) hl)
  clear hl
  go_enter Try.func24, Try.ntmps24
  go_wp2_with fail
  refine HC.out.mono ?_
  rintro e w1 ⟨v, rfl, o1, b1⟩
  obtain ⟨A1, c1, rfl⟩ := own_shape o1
  have O1 := Lib.hid o1
  have B1 := Lib.hid b1
  clear o1 b1 HC
  go_wp2_with ((with_reducible refine at_build 8 ?_); refine wpList_built rfl 79 #[(0, .tmp 6), (2, .tmp 7)] rfl #[.slice A1 l.length c1, .slice none 0 0, .func (.func gf) #[] cb] ((congrArg (Try.prog.built 79) (show _ = [(0, Value.slice A1 l.length c1), (2, Value.func (.func gf) #[] cb)] by kernel_rfl)).trans (builtSet _ rfl A1 l.length c1 gf cb)) ?_)
  go_ret
  refine ⟨w1.heap.size, .slice A1 l.length c1, rfl, ⟨Blk.new w1 79 _, B1.out.size, own_below O1.out ((Below.refl _ _).alloc (Nat.le_refl _) _), ⟨rfl, .inl ⟨rfl, rfl⟩⟩, fun k _ h => by cases h⟩, B1.out.trans (((Below.refl _ _).alloc (Nat.le_refl _) _).mono B1.out.size)⟩
/-- plain: on coins that rise the first coin that may go is the first one, if that may -/
theorem find_takP {r : CoinV → Bool} {p : PtV} : ∀ l : List CoinV, RisesK l → (l.find? (takP p r) = (findK l p).filter r ∧ ∀ c, findK l p = some c → r c = true → l.eraseP (takP p r) = delC CoinV.at_ l p)
  | [], _ => ⟨rfl, fun c h => by cases h⟩
  | y :: s, h => by
    unfold RisesK RisesC at h
    rw [List.pairwise_cons] at h
    by_cases hy : y.at_ = p
    · have hno : ∀ x ∈ s, x.at_ ≠ p := fun x hx e => by
        have := h.1 x hx
        rw [hy, e, ordP.irrefl] at this
        cases this
      have hs : s.find? (takP p r) = none := List.find?_eq_none.2 fun x hx => by unfold takP; simp [hno x hx]
      have hf : findK (y :: s) p = some y := by
        show List.find? _ _ = _
        rw [List.find?_cons_of_pos (by simpa using hy)]
      refine ⟨?_, fun c hc hr => ?_⟩
      · rw [hf]
        cases hr : r y with
        | true => rw [List.find?_cons_of_pos (by unfold takP; simp [hy, hr])]; simp [Option.filter, hr]
        | false => rw [List.find?_cons_of_neg (by unfold takP; simp [hr]), hs]; simp [Option.filter, hr]
      · rw [hf] at hc
        obtain rfl := Option.some.inj hc
        unfold delC
        rw [List.eraseP_cons_of_pos (by unfold takP; simp [hy, hr]), List.eraseP_cons_of_pos (by simpa using hy)]
    · obtain ⟨i1, i2⟩ := find_takP (r := r) (p := p) s h.2
      have hf : findK (y :: s) p = findK s p := by
        show List.find? _ _ = List.find? _ _
        rw [List.find?_cons_of_neg (by simpa using hy)]
      refine ⟨?_, fun c hc hr => ?_⟩
      · rw [List.find?_cons_of_neg (by unfold takP; simp [hy]), hf, i1]
      · rw [hf] at hc
        have := i2 c hc hr
        unfold delC at this ⊢
        rw [List.eraseP_cons_of_neg (by unfold takP; simp [hy]), List.eraseP_cons_of_neg (by simpa using hy), this]
theorem takeQ_rises (r : CoinV → Bool) : ∀ (ps : List PtV) (l q : List CoinV), RisesK l → takeQ r l q ps = (takeC CoinV.at_ r l ps).map fun x => (x.1, q ++ x.2)
  | [], l, q, _ => by unfold takeQ takeC; simp
  | p :: ps, l, q, h => by
    obtain ⟨h1, h2⟩ := find_takP (r := r) (p := p) l h
    unfold takeQ takeC takeO
    rw [h1]
    cases hf : findC CoinV.at_ l p with
    | none =>
      have hf' : findK l p = none := hf
      rw [hf']
      rfl
    | some c =>
      have hf' : findK l p = some c := hf
      rw [hf']
      cases hr : r c with
      | false => simp [Option.filter, hr]
      | true =>
        have h3 := h2 c hf' hr
        simp only [Option.filter, hr, if_true, Option.map_some, h3]
        rw [takeQ_rises r ps _ _ (rises_del h)]
        cases takeC CoinV.at_ r (delC CoinV.at_ l p) ps <;> simp
theorem takeQ_rem : ∀ (ps : List PtV) (l q : List CoinV), (takeQ (fun _ => true) l q ps).map (·.1) = remC CoinV.at_ l ps
  | [], l, q => by unfold takeQ remC; rfl
  | p :: ps, l, q => by
    have h1 : takP p (fun _ => true) = fun x : CoinV => decide (x.at_ = p) := by funext x; unfold takP; simp
    unfold takeQ remC takeO
    rw [h1]
    cases hf : findC CoinV.at_ l p with
    | none =>
      have hf' : l.find? (fun x : CoinV => decide (x.at_ = p)) = none := hf
      rw [hf']
      rfl
    | some c =>
      have hf' : l.find? (fun x : CoinV => decide (x.at_ = p)) = some c := hf
      rw [hf']
      simp only [Option.map_some, Option.isSome_some, if_true]
      exact takeQ_rem ps _ _
theorem takeQ_len (r : CoinV → Bool) : ∀ (ps : List PtV) (l q : List CoinV) (x : List CoinV × List CoinV), takeQ r l q ps = some x → x.1.length ≤ l.length
  | [], l, q, x, h => by
    unfold takeQ at h
    rw [← Option.some.inj h]
    exact Nat.le_refl _
  | p :: ps, l, q, x, h => by
    unfold takeQ at h
    cases ho : takeO r p l q with
    | none => rw [ho] at h; cases h
    | some y =>
      rw [ho] at h
      have h1 := takeQ_len r ps _ _ x h
      have h2 := (takeO_len (r := r) (p := p) (l := l) (q := q)).1
      rw [ho] at h2
      exact Nat.le_trans h1 h2
/-- what Apply comes to, by the first coin at a point that may go -/
def applyP (l : List CoinV) (T : TxV) (id : K32) (h : IntV .u32) : (List CoinV × List CoinV) × Int := match (if coinF T then some (l, []) else takeQ (fun c => ripeF c h) l [] T.ins) with
  | none => (([], []), 160)
  | some x => match addC CoinV.at_ ltP x.1 (madeC id h (coinF T) 0 T.outs) with
    | none => (([], []), 4)
    | some r => ((r, x.2), 0)
theorem applyP_rises (l : List CoinV) (T : TxV) (id : K32) (h : IntV .u32) (hr : RisesK l) : applyP l T id h = applyR l T id h := by
  unfold applyP applyR applyF takeF
  cases hc : coinF T with
  | true =>
    simp only [if_true]
    cases addC CoinV.at_ ltP l (madeC id h true 0 T.outs) <;> rfl
  | false =>
    simp only [Bool.false_eq_true, if_false]
    rw [takeQ_rises _ _ _ _ hr]
    cases takeC CoinV.at_ (fun c => ripeF c h) l T.ins with
    | none => rfl
    | some x =>
      simp only [Option.map_some, List.nil_append]
      cases addC CoinV.at_ ltP x.1 (madeC id h false 0 T.outs) <;> rfl
theorem setK_nil {base g : Nat} {fv v1 v2 : Value} {l q : List CoinV} {w : World} (h : SetV base g fv v1 v2 l q w) : SetK [] base g fv l q w := ⟨v1, v2, h, fun b hb => by cases hb⟩
/-- a set lies apart from what is new behind it -/
theorem setK_new {K : List Nat} {base g : Nat} {fv : Value} {l q : List CoinV} {w w' : World} (h : SetK [] base g fv l q w) (hb : Below w.heap.size w w') (hK : ∀ b ∈ K, w.heap.size ≤ b ∧ b < w'.heap.size) : SetK K base g fv l q w' := by
  obtain ⟨v1, v2, h, _⟩ := h
  refine ⟨v1, v2, h.below hb, fun b hB => ⟨(hK b hB).2, ?_⟩⟩
  have h1 := (hK b hB).1
  rintro (rfl | hx | hx)
  · have := h.blk.lt; omega
  · have := own_lt h.o1 b hx; omega
  · have := own_lt h.o2 b hx; omega
theorem setK_less {K : List Nat} {base g : Nat} {fv : Value} {l q : List CoinV} {w : World} (h : SetK K base g fv l q w) : SetK [] base g fv l q w := by
  obtain ⟨v1, v2, h, _⟩ := h
  exact setK_nil h
set_option maxRecDepth 20000 in
set_option maxHeartbeats 4000000 in
theorem pApply_g (a : TxA) (id : K32) (h : IntV .u32) (A : Option Addr) (c : Nat) (l : List CoinV) (w : World) (ha : a.In w w.heap.size) (hl : RowIn encC 68 w w.heap.size A c l) (hn : l.length ≤ 300) (hi : a.T.ins.length ≤ 300) (ho : a.T.outs.length ≤ 300) (R : (List CoinV × List CoinV) × Int) (hR : applyP l a.T id h = R) :
    Calls Try.prog 11 #[.slice A l.length c, .agg a.cells.toArray, .agg (encK id).toArray, .int .u32 h.1] w fun e w' => ∃ A1 c1 A2 c2, e = .returned (.tuple #[.slice A1 R.1.1.length c1, .slice A2 R.1.2.length c2, .int .i64 R.2]) ∧ RowIn encC 68 w' w'.heap.size A1 c1 R.1.1 ∧ RowIn encC 68 w' w'.heap.size A2 c2 R.1.2 ∧ Below w.heap.size w w' := by
  have H3 := Lib.hid (show Holds w [(w.heap.size + 2, 23, #[.int .u32 h.1]), (w.heap.size + 1, 27, (encK id).toArray), (w.heap.size, 30, a.cells.toArray)] (((w.alloc (.cells a.cells.toArray 30)).alloc (.cells (encK id).toArray 27)).alloc (.cells #[.int .u32 h.1] 23)) from by
    have := (((Holds.nil w).box 30 a.cells.toArray).box 27 (encK id).toArray).box 23 #[.int .u32 h.1]
    simpa only [World.size_alloc, Nat.add_assoc] using this)
  have IN := Lib.hid ha
  have HO := Lib.hid ho
  have HI := Lib.hid hi
  have HN := Lib.hid hn
  have HOF := Lib.hid (pOf_any A c l 25 #[.pointer (some ⟨w.heap.size + 2, 0, none⟩)] (((w.alloc (.cells a.cells.toArray 30)).alloc (.cells (encK id).toArray 27)).alloc (.cells #[.int .u32 h.1] 23)) ((hl.below H3.out.below).more H3.out.below.size) (by omega))
  obtain ⟨base, hbase⟩ : ∃ base, (((w.alloc (.cells a.cells.toArray 30)).alloc (.cells (encK id).toArray 27)).alloc (.cells #[.int .u32 h.1] 23)).heap.size = base := ⟨_, rfl⟩
  have HBS := Lib.hid (show base = w.heap.size + 3 by rw [← hbase]; simp)
  rw [hbase] at HOF
  clear ha hl hi ho hn
  go_enter Try.func11, Try.ntmps11
  go_wp2_with fail
  refine HOF.out.mono ?_
  rintro e w1 ⟨g, v1, rfl, sv, b1⟩
  have H1 := Lib.hid (H3.out.call (hbase ▸ b1))
  have S1 := Lib.hid (setK_nil sv)
  clear sv b1 H3 HOF hbase
  obtain ⟨bb, hbb⟩ : ∃ b, coinF a.T = b := ⟨_, rfl⟩
  have HCB := Lib.hid (show ∀ W, Holds w [(w.heap.size + 2, 23, #[.int .u32 h.1]), (w.heap.size + 1, 27, (encK id).toArray), (w.heap.size, 30, a.cells.toArray)] W → Calls Try.prog 26 #[.agg a.cells.toArray] W fun e w' => e = .returned (.bool bb) ∧ Below W.heap.size W w' from fun W hW => hbb ▸ coin_any a W (IN.out.on hW.below (Nat.le_refl _)))
  have HR := Lib.hid hR
  unfold applyP at HR
  rw [hbb] at HR
  clear hbb hR
  go_wp2_with ((with_reducible refine at_load 5 ?_); refine tyTx.wpList_load rfl (.tmp 5) rfl w.heap.size 0 rfl a (RowC.of_blk (H1.out.at (x := (w.heap.size, 30, a.cells.toArray)) (by simp))) ?_)
  refine (HCB.out _ H1.out).mono ?_
  rintro e w2 ⟨rfl, b2⟩
  have HH := Lib.hid (H1.out.call b2)
  have SK := Lib.hid (S1.out.below b2)
  clear b2 H1 S1 HCB
  cases bb with
  | true =>
    simp only [if_true] at HR
    have k2 : w2.cell? ⟨w.heap.size, 2, none⟩ = some (.slice a.Ao a.T.outs.length a.co) := TxA.c2 (RowC.of_blk (HH.out.at (x := (w.heap.size, 30, a.cells.toArray)) (by simp)))
    have k3 : w2.cell? ⟨w.heap.size + 2, 0, none⟩ = some (.int .u32 h.1) := (HH.out.at (x := (w.heap.size + 2, 23, #[.int .u32 h.1])) (by simp)).cell 0
    have HMD := Lib.hid (pMade_any a.Ao a.co a.T.outs id h true w2 (IN.out.on HH.out.below (Nat.le_refl _)).outs (by have := HO.out; omega))
    go_wp2_with ((with_reducible refine at_load 6 ?_); refine tyKc.wpList_load rfl (.tmp 6) rfl (w.heap.size + 1) 0 rfl id (RowC.of_blk (HH.out.at (x := (w.heap.size + 1, 27, (encK id).toArray)) (by simp))) ?_)
    refine HMD.out.mono ?_
    rintro e w4 ⟨gm, rfl, pm, hgm, b4⟩
    have PM := Lib.hid pm
    have B4 := Lib.hid (HH.out.below.trans (b4.mono HH.out.below.size))
    have S4 := Lib.hid (setK_new (K := [gm]) SK.out b4 (by intro b hb; rw [List.mem_singleton] at hb; subst hb; exact ⟨hgm, pm.lt⟩))
    have HAP := Lib.hid (show Calls Try.prog 29 #[.slice (some ⟨gm, 0, none⟩) a.T.outs.length a.T.outs.length, .func (.func 31) #[.pointer (some ⟨g, 0, none⟩)] #[]] w4 fun e w' => e = .returned (.bool (addC CoinV.at_ ltP (l) (madeC id h true 0 a.T.outs)).isSome) ∧ (∃ l', SetK [gm] base g (.func (.func 25) #[] #[.pointer (some ⟨w.heap.size + 2, 0, none⟩)]) l' ([]) w' ∧ ∀ x, addC CoinV.at_ ltP (l) (madeC id h true 0 a.T.outs) = some x → x = l') ∧ Below base w4 w' ∧ Kept [gm] w4 w' from by
      have := all_put [gm] base g (.func (.func 25) #[] #[.pointer (some ⟨w.heap.size + 2, 0, none⟩)]) (l) ([]) (madeC id h true 0 a.T.outs) (some ⟨gm, 0, none⟩) a.T.outs.length w4 S4.out (by have := HN.out; omega) (fun V _ hK => rowIn_new (hK gm (by simp) PM.out.lt |>.trans PM.out) (by rw [madeC_len]; exact Nat.le_refl _) (by have := HO.out; unfold maxLen; omega)) (by rw [madeC_len]; have := HO.out; omega)
      rwa [madeC_len] at this)
    clear pm hgm b4 HMD k2 k3 SK HH
    go_wp2_with fail
    refine HAP.out.mono ?_
    rintro e w5 ⟨rfl, ⟨l5, s5, hx5⟩, b5, k5⟩
    have B5 := Lib.hid (B4.out.trans (b5.mono (by have := HBS.out; omega)))
    have S5 := Lib.hid s5
    have X5 := Lib.hid hx5
    clear s5 hx5 b5 k5 HAP S4 PM B4
    obtain ⟨f, hf⟩ : ∃ f, addC CoinV.at_ ltP (l) (madeC id h true 0 a.T.outs) = f := ⟨_, rfl⟩
    rw [hf] at HR X5 ⊢
    clear hf
    cases f with
    | none =>
      go_wp2_with fail
      go_ret3
      rw [← HR.out]
      exact ⟨none, 0, none, 0, rfl, RowIn.nil (Nat.zero_le _), RowIn.nil (Nat.zero_le _), B5.out⟩
    | some u =>
      obtain rfl := X5.out u rfl
      obtain ⟨v1, v2, sv, _⟩ := S5.out
      obtain ⟨A7, c7, rfl, r7⟩ := RowIn.of_own encC_len sv.o1
      obtain ⟨A8, c8, rfl, r8⟩ := RowIn.of_own encC_len sv.o2
      have SV := Lib.hid sv
      have R78 := Lib.hid (And.intro r7 r8)
      have HG := Lib.hid sv.blk.lt
      clear sv r7 r8 S5 X5
      go_wp2_with fail
      refine wp_region_from (by kernel_rfl) (by kernel_rfl) ?_
      repeat (first
        | ((with_reducible refine at_qload 40 ?_); refine wpQuiet_load_one (by rfl) 22 (.tmp 40) rfl ⟨g, 0, none⟩ rfl (.slice A7 u.length c7) Try.isAgg22 (fun V hC => (below_blk hC.below SV.out.blk HG.out).cell 0) ?_; simp only [Act.put, List.setIfInBounds_toArray, List.set_cons_succ, List.set_cons_zero])
        | ((with_reducible refine at_qload 44 ?_); refine wpQuiet_load_one (by rfl) 22 (.tmp 44) rfl ⟨g, 1, none⟩ rfl (.slice A8 ([]).length c8) Try.isAgg22 (fun V hC => (below_blk hC.below SV.out.blk HG.out).cell 1) ?_; simp only [Act.put, List.setIfInBounds_toArray, List.set_cons_succ, List.set_cons_zero])
        | (go_big_quiet_want; go_big_quiet_op; refine ⟨_, fun _ _ => by with_reducible rfl, ?_⟩; go_big_quiet_on)
        | go_big_quiet_step (fail))
      refine wpQuiet_nil ?_
      intro w9 hC
      go_wp2_with fail
      go_ret3
      rw [← HR.out]
      exact ⟨A7, c7, A8, c8, rfl, (R78.out.1.below hC.below).more hC.below.size, (R78.out.2.below hC.below).more hC.below.size, B5.out.trans (hC.below.mono B5.out.size)⟩
  | false =>
    simp only [Bool.false_eq_true, if_false] at HR
    have k1 : w2.cell? ⟨w.heap.size, 1, none⟩ = some (.slice a.Ai a.T.ins.length a.ci) := TxA.c1 (RowC.of_blk (HH.out.at (x := (w.heap.size, 30, a.cells.toArray)) (by simp)))
    have HAT := Lib.hid (all_take [] base g 25 #[.pointer (some ⟨w.heap.size + 2, 0, none⟩)] (fun c => ripeF c h) l [] a.T.ins a.Ai a.ci w2 SK.out entersA1
      (fun c V hV => apply1_any (w.heap.size + 2) h c V ((below_blk hV (HH.out.at (x := (w.heap.size + 2, 23, #[.int .u32 h.1])) (by simp)) (by have := HBS.out; simp; omega)).cell 0) (by have := HBS.out; have := hV.size; have := HH.out.lt (x := (w.heap.size + 2, 23, #[.int .u32 h.1])) (by simp); simp only at this; omega))
      (by have := HN.out; omega) (by simp) (fun V hV _ => (IN.out.on (HH.out.below.trans (hV.mono (by have := HBS.out; omega))) (Nat.le_refl _)).ins) (by have := HI.out; omega))
    go_wp2_with fail
    refine HAT.out.mono ?_
    rintro e w3 ⟨rfl, ⟨l3, q3, s3, hx3⟩, b3, k3⟩
    have HH3 := Lib.hid (HH.out.low b3 (by have := HBS.out; omega) (by have := HBS.out; simp; omega))
    have S3 := Lib.hid s3
    have X3 := Lib.hid hx3
    have HL3 := Lib.hid (show ∀ x, takeQ (fun c => ripeF c h) l [] a.T.ins = some x → x.1.length ≤ 300 from fun x hx => by have := takeQ_len _ _ _ _ _ hx; have := HN.out; omega)
    clear s3 hx3 b3 k3 HAT HH SK k1
    have HH := HH3
    clear HH3
    obtain ⟨f, hf⟩ : ∃ f, takeQ (fun c => ripeF c h) l [] a.T.ins = f := ⟨_, rfl⟩
    rw [hf] at HR X3 HL3 ⊢
    clear hf
    cases f with
    | none =>
      go_wp2_with fail
      go_ret3
      rw [← HR.out]
      exact ⟨none, 0, none, 0, rfl, RowIn.nil (Nat.zero_le _), RowIn.nil (Nat.zero_le _), HH.out.below⟩
    | some x =>
      obtain rfl := X3.out x rfl
      have HLL := Lib.hid (HL3.out _ rfl)
      have SK := S3
      clear S3 X3 HL3
      simp only at HR
      have k2 : w3.cell? ⟨w.heap.size, 2, none⟩ = some (.slice a.Ao a.T.outs.length a.co) := TxA.c2 (RowC.of_blk (HH.out.at (x := (w.heap.size, 30, a.cells.toArray)) (by simp)))
      have k3 : w3.cell? ⟨w.heap.size + 2, 0, none⟩ = some (.int .u32 h.1) := (HH.out.at (x := (w.heap.size + 2, 23, #[.int .u32 h.1])) (by simp)).cell 0
      have HMD := Lib.hid (pMade_any a.Ao a.co a.T.outs id h false w3 (IN.out.on HH.out.below (Nat.le_refl _)).outs (by have := HO.out; omega))
      go_wp2_with ((with_reducible refine at_load 6 ?_); refine tyKc.wpList_load rfl (.tmp 6) rfl (w.heap.size + 1) 0 rfl id (RowC.of_blk (HH.out.at (x := (w.heap.size + 1, 27, (encK id).toArray)) (by simp))) ?_)
      refine HMD.out.mono ?_
      rintro e w4 ⟨gm, rfl, pm, hgm, b4⟩
      have PM := Lib.hid pm
      have B4 := Lib.hid (HH.out.below.trans (b4.mono HH.out.below.size))
      have S4 := Lib.hid (setK_new (K := [gm]) SK.out b4 (by intro b hb; rw [List.mem_singleton] at hb; subst hb; exact ⟨hgm, pm.lt⟩))
      have HAP := Lib.hid (show Calls Try.prog 29 #[.slice (some ⟨gm, 0, none⟩) a.T.outs.length a.T.outs.length, .func (.func 31) #[.pointer (some ⟨g, 0, none⟩)] #[]] w4 fun e w' => e = .returned (.bool (addC CoinV.at_ ltP (l3) (madeC id h false 0 a.T.outs)).isSome) ∧ (∃ l', SetK [gm] base g (.func (.func 25) #[] #[.pointer (some ⟨w.heap.size + 2, 0, none⟩)]) l' (q3) w' ∧ ∀ x, addC CoinV.at_ ltP (l3) (madeC id h false 0 a.T.outs) = some x → x = l') ∧ Below base w4 w' ∧ Kept [gm] w4 w' from by
        have := all_put [gm] base g (.func (.func 25) #[] #[.pointer (some ⟨w.heap.size + 2, 0, none⟩)]) (l3) (q3) (madeC id h false 0 a.T.outs) (some ⟨gm, 0, none⟩) a.T.outs.length w4 S4.out (by exact Nat.le_trans HLL.out (by omega)) (fun V _ hK => rowIn_new (hK gm (by simp) PM.out.lt |>.trans PM.out) (by rw [madeC_len]; exact Nat.le_refl _) (by have := HO.out; unfold maxLen; omega)) (by rw [madeC_len]; have := HO.out; omega)
        rwa [madeC_len] at this)
      clear pm hgm b4 HMD k2 k3 SK HH
      go_wp2_with fail
      refine HAP.out.mono ?_
      rintro e w5 ⟨rfl, ⟨l5, s5, hx5⟩, b5, k5⟩
      have B5 := Lib.hid (B4.out.trans (b5.mono (by have := HBS.out; omega)))
      have S5 := Lib.hid s5
      have X5 := Lib.hid hx5
      clear s5 hx5 b5 k5 HAP S4 PM B4
      obtain ⟨f, hf⟩ : ∃ f, addC CoinV.at_ ltP (l3) (madeC id h false 0 a.T.outs) = f := ⟨_, rfl⟩
      rw [hf] at HR X5 ⊢
      clear hf
      cases f with
      | none =>
        go_wp2_with fail
        go_ret3
        rw [← HR.out]
        exact ⟨none, 0, none, 0, rfl, RowIn.nil (Nat.zero_le _), RowIn.nil (Nat.zero_le _), B5.out⟩
      | some u =>
        obtain rfl := X5.out u rfl
        obtain ⟨v1, v2, sv, _⟩ := S5.out
        obtain ⟨A7, c7, rfl, r7⟩ := RowIn.of_own encC_len sv.o1
        obtain ⟨A8, c8, rfl, r8⟩ := RowIn.of_own encC_len sv.o2
        have SV := Lib.hid sv
        have R78 := Lib.hid (And.intro r7 r8)
        have HG := Lib.hid sv.blk.lt
        clear sv r7 r8 S5 X5
        go_wp2_with fail
        refine wp_region_from (by kernel_rfl) (by kernel_rfl) ?_
        repeat (first
          | ((with_reducible refine at_qload 40 ?_); refine wpQuiet_load_one (by rfl) 22 (.tmp 40) rfl ⟨g, 0, none⟩ rfl (.slice A7 u.length c7) Try.isAgg22 (fun V hC => (below_blk hC.below SV.out.blk HG.out).cell 0) ?_; simp only [Act.put, List.setIfInBounds_toArray, List.set_cons_succ, List.set_cons_zero])
          | ((with_reducible refine at_qload 44 ?_); refine wpQuiet_load_one (by rfl) 22 (.tmp 44) rfl ⟨g, 1, none⟩ rfl (.slice A8 (q3).length c8) Try.isAgg22 (fun V hC => (below_blk hC.below SV.out.blk HG.out).cell 1) ?_; simp only [Act.put, List.setIfInBounds_toArray, List.set_cons_succ, List.set_cons_zero])
          | (go_big_quiet_want; go_big_quiet_op; refine ⟨_, fun _ _ => by with_reducible rfl, ?_⟩; go_big_quiet_on)
          | go_big_quiet_step (fail))
        refine wpQuiet_nil ?_
        intro w9 hC
        go_wp2_with fail
        go_ret3
        rw [← HR.out]
        exact ⟨A7, c7, A8, c8, rfl, (R78.out.1.below hC.below).more hC.below.size, (R78.out.2.below hC.below).more hC.below.size, B5.out.trans (hC.below.mono B5.out.size)⟩
theorem pApply_c : ApplyOk := fun a id h A c l w ha hl hn hi ho hr => by
  rw [← applyP_rises l a.T id h hr]
  exact pApply_g a id h A c l w ha hl hn hi ho _ rfl
end Go.Proofs.Ytkjgmhamglhggaa
