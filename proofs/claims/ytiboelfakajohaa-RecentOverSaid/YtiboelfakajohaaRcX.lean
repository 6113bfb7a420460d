/- The project's lasts, the closures, those, IndexFunc, ContainsFunc, end, Put, Has, Old. Written by genRcX.py. -/
import Derived.Test.YtiboelfakajohaaLRc
import Derived.Test.YtiboelfakajohaaSlFull
namespace Go.Proofs.Ytiboelfakajohaa
open Go.RowKit
theorem young_math (x : ItV) (n : Int) (hn : n < 18446744073709551616) : youngF x n = decide (n < x.2.1 + 60) := by
  have h := wf_u64i x.2
  unfold youngF
  by_cases h1 : 18446744073709551555 < x.2.1
  · rw [decide_eq_true h1, decide_eq_true (show n < x.2.1 + 60 by omega)]; rfl
  · rw [decide_eq_false h1]; rfl
set_option maxRecDepth 20000 in
set_option maxHeartbeats 2000000 in
theorem iLasts_w (x : ItV) (now : IntV .u64) (w : World) :
    Calls Try.prog 21 #[.agg ((encKI .u64) x).toArray, .int .u64 now.1] w fun e w' => e = .returned (.bool (youngF x now.1)) ∧ Below w.heap.size w w' := by
  rw [young_math x now.1 (wf_u64i now).2]
  have hx := wf_u64i x.2
  have hn0 := wf_u64i now
  have c1 : (w.alloc (.cells ((encKI .u64) x).toArray 40)).cell? ⟨w.heap.size, 32, none⟩ = some (.int .u64 x.2.1) := by
    have := RowC.ki_int (RowC.of_blk (Blk.new w 40 ((encKI .u64) x).toArray))
    simpa using this
  have B0 := Lib.hid (show Below w.heap.size w (w.alloc (.cells ((encKI .u64) x).toArray 40)) from (Below.refl _ _).alloc (Nat.le_refl _) _)
  obtain ⟨z, hz⟩ : ∃ z, x.2.1 = z := ⟨_, rfl⟩
  obtain ⟨n, hn⟩ : ∃ n, now.1 = n := ⟨_, rfl⟩
  rw [hz] at c1 hx
  rw [hn] at hn0
  rw [hz, hn]
  clear hz hn
  by_cases h : n < z
  · have hd : decide (n < z) = true := decide_eq_true h
    have HX := Lib.hid (show decide (n < z + 60) = true from decide_eq_true (by omega))
    clear h hx hn0
    go_enter Try.func21, Try.ntmps21
    go_wp2_with fail
    go_ret
    exact ⟨by rw [HX.out]; rfl, B0.out⟩
  · have hd : decide (n < z) = false := decide_eq_false h
    have hw : IntKind.u64.wrap (n - z) = n - z := by rw [IntKind.wrap_u64]; omega
    obtain ⟨q, hq⟩ : ∃ q, decide (n - z < 60) = q := ⟨_, rfl⟩
    have HX := Lib.hid (show decide (n < z + 60) = q by rw [← hq]; exact decide_eq_decide.2 (by omega))
    clear h hx hn0
    go_enter Try.func21, Try.ntmps21
    go_wp2_with fail
    go_ret
    exact ⟨by rw [HX.out]; rfl, B0.out⟩
set_option maxRecDepth 20000 in
set_option maxHeartbeats 2000000 in
theorem iPut1_w (g : Nat) (id : K32) (x : ItV) (W : World) (hk : Blk W g 24 (encK id).toArray) :
    Calls Try.prog 17 #[.agg ((encKI .u64) x).toArray, .pointer (some ⟨g, 0, none⟩)] W fun e w' => e = .returned (.bool (!(decide (x.1 = id)))) ∧ Below W.heap.size W w' := by
  have K0 := Lib.hid (hk.alloc (.cells ((encKI .u64) x).toArray 40))
  have X0 := Lib.hid (RowC.ki_key (RowC.of_blk (Blk.new W 40 ((encKI .u64) x).toArray)))
  obtain ⟨q, hq⟩ : ∃ q, decide (x.1 = id) = q := ⟨_, rfl⟩
  have HQ := Lib.hid hq
  rw [hq]
  clear hk hq
  go_enter Try.func17, Try.ntmps17
  go_wp2_with (first
    | ((with_reducible refine at_load 4 ?_); refine tyKc.wpList_load rfl (.tmp 4) rfl W.heap.size 0 rfl x.1 X0.out ?_)
    | ((with_reducible refine at_load 1 ?_); refine tyKc.wpList_load rfl (.tmp 1) rfl g 0 rfl id (RowC.of_blk K0.out) ?_)
    | ((with_reducible refine at_neqlg 5 6 ?_); refine wpList_neq_rowg (by rfl) 24 24 (.tmp 5) (.tmp 6) rfl (encK x.1).toArray (encK id).toArray rfl rfl (by kernel_rfl) q (fun V => (eqKy_run _ _ V).trans (by rw [HQ.out])) ?_))
  go_ret
  exact ⟨rfl, (Below.refl _ _).alloc (Nat.le_refl _) _⟩
theorem iEntersP : ∀ args w, (callFunc 17 args).run Try.prog w = .ok (.enter 17 args) w := enters_of Try.func17 (by kernel_rfl) rfl
set_option maxRecDepth 20000 in
set_option maxHeartbeats 2000000 in
theorem iOld1_w (g : Nat) (now : IntV .u64) (x : ItV) (W : World) (hk : Blk W g 25 #[.int .u64 now.1]) :
    Calls Try.prog 23 #[.agg ((encKI .u64) x).toArray, .pointer (some ⟨g, 0, none⟩)] W fun e w' => e = .returned (.bool (youngF x now.1)) ∧ Below W.heap.size W w' := by
  have K0 := Lib.hid (hk.alloc (.cells ((encKI .u64) x).toArray 40))
  have k0 := K0.out.cell 0
  have X0 := Lib.hid (RowC.of_blk (Blk.new W 40 ((encKI .u64) x).toArray))
  have HB := Lib.hid (show Below W.heap.size W (W.alloc (.cells ((encKI .u64) x).toArray 40)) from (Below.refl _ _).alloc (Nat.le_refl _) _)
  have HC := Lib.hid (iLasts_w x now (W.alloc (.cells ((encKI .u64) x).toArray 40)))
  obtain ⟨q, hq⟩ : ∃ q, youngF x now.1 = q := ⟨_, rfl⟩
  rw [hq] at HC ⊢
  clear hk hq
  go_enter Try.func23, Try.ntmps23
  go_wp2_with (first
    | ((with_reducible refine at_load 2 ?_); refine tyItc.wpList_load rfl (.tmp 2) rfl W.heap.size 0 rfl x X0.out ?_)
    | ((with_reducible refine at_load 1 ?_); refine wpList_load_one rfl 25 (.tmp 1) rfl ⟨g, 0, none⟩ rfl (.int .u64 now.1) Try.isAgg25 k0 ?_)
    | (go_at_call 21; with_reducible refine HC.out.mono ?_; rintro e w2 ⟨rfl, b2⟩
       have B2 := Lib.hid (HB.out.trans (b2.mono HB.out.size))
       clear b2))
  go_ret
  exact ⟨rfl, B2.out⟩
theorem iEntersO : ∀ args w, (callFunc 23 args).run Try.prog w = .ok (.enter 23 args) w := enters_of Try.func23 (by kernel_rfl) rfl
set_option maxRecDepth 20000 in
set_option maxHeartbeats 2000000 in
theorem iHas1_w (g h : Nat) (id : K32) (now : IntV .u64) (x : ItV) (W : World) (hk : Blk W g 24 (encK id).toArray) (hu : Blk W h 25 #[.int .u64 now.1]) :
    Calls Try.prog 20 #[.agg ((encKI .u64) x).toArray, .pointer (some ⟨g, 0, none⟩), .pointer (some ⟨h, 0, none⟩)] W fun e w' => e = .returned (.bool (decide (x.1 = id) && youngF x now.1)) ∧ Below W.heap.size W w' := by
  have K0 := Lib.hid (hk.alloc (.cells ((encKI .u64) x).toArray 40))
  have u0 := (hu.alloc (.cells ((encKI .u64) x).toArray 40)).cell 0
  have X0 := Lib.hid (RowC.of_blk (Blk.new W 40 ((encKI .u64) x).toArray))
  have HB := Lib.hid (show Below W.heap.size W (W.alloc (.cells ((encKI .u64) x).toArray 40)) from (Below.refl _ _).alloc (Nat.le_refl _) _)
  have HC := Lib.hid (iLasts_w x now (W.alloc (.cells ((encKI .u64) x).toArray 40)))
  obtain ⟨p, hp⟩ : ∃ p, youngF x now.1 = p := ⟨_, rfl⟩
  rw [hp] at HC ⊢
  obtain ⟨q, hq⟩ : ∃ q, decide (x.1 = id) = q := ⟨_, rfl⟩
  have HQ := Lib.hid hq
  rw [hq]
  clear hk hu hq hp
  go_enter Try.func20, Try.ntmps20
  cases q
  · go_wp2_with (first
      | ((with_reducible refine at_load 5 ?_); refine tyKc.wpList_load rfl (.tmp 5) rfl W.heap.size 0 rfl x.1 X0.out.ki_key ?_)
      | ((with_reducible refine at_load 1 ?_); refine tyKc.wpList_load rfl (.tmp 1) rfl g 0 rfl id (RowC.of_blk K0.out) ?_)
      | ((with_reducible refine at_eqlg 6 7 ?_); refine wpList_eql_rowg (by rfl) 24 24 (.tmp 6) (.tmp 7) rfl (encK x.1).toArray (encK id).toArray rfl rfl (by kernel_rfl) false (fun V => (eqKy_run _ _ V).trans (by rw [HQ.out])) ?_)
      | ((with_reducible refine at_loadg 3 ?_); refine tyItc.wpList_load rfl (.tmp 3) rfl W.heap.size 0 rfl x X0.out ?_)
      | (go_at_call 21; with_reducible refine HC.out.mono ?_; rintro e w2 ⟨rfl, b2⟩
         have B2 := Lib.hid (HB.out.trans (b2.mono HB.out.size))
         clear b2))
    go_ret
    exact ⟨rfl, HB.out⟩
  · go_wp2_with (first
      | ((with_reducible refine at_load 5 ?_); refine tyKc.wpList_load rfl (.tmp 5) rfl W.heap.size 0 rfl x.1 X0.out.ki_key ?_)
      | ((with_reducible refine at_load 1 ?_); refine tyKc.wpList_load rfl (.tmp 1) rfl g 0 rfl id (RowC.of_blk K0.out) ?_)
      | ((with_reducible refine at_eqlg 6 7 ?_); refine wpList_eql_rowg (by rfl) 24 24 (.tmp 6) (.tmp 7) rfl (encK x.1).toArray (encK id).toArray rfl rfl (by kernel_rfl) true (fun V => (eqKy_run _ _ V).trans (by rw [HQ.out])) ?_)
      | ((with_reducible refine at_loadg 3 ?_); refine tyItc.wpList_load rfl (.tmp 3) rfl W.heap.size 0 rfl x X0.out ?_)
      | (go_at_call 21; with_reducible refine HC.out.mono ?_; rintro e w2 ⟨rfl, b2⟩
         have B2 := Lib.hid (HB.out.trans (b2.mono HB.out.size))
         clear b2))
    go_ret
    exact ⟨rfl, B2.out⟩
theorem iEntersH : ∀ args w, (callFunc 20 args).run Try.prog w = .ok (.enter 20 args) w := enters_of Try.func20 (by kernel_rfl) rfl
set_option maxRecDepth 20000 in
set_option maxHeartbeats 2000000 in
theorem those_any (A : Option Addr) (c : Nat) (l : List ItV) (w : World) (hn : l.length ≤ 1000) (hl : RowIn (encKI .u64) 33 w w.heap.size A c l)
    (g : Nat) (cb : Array Value) (p : ItV → Bool) (eg : ∀ args w, (callFunc g args).run Try.prog w = .ok (.enter g args) w)
    (hp : ∀ x W, Below w.heap.size w W → Calls Try.prog g (#[.agg ((encKI .u64) x).toArray] ++ cb) W fun e w' => e = .returned (.bool (p x)) ∧ Below W.heap.size W w') :
    Calls Try.prog 16 #[.slice A l.length c, .func (.func g) #[] cb] w fun e w' => ∃ v, e = .returned v ∧ w'.ownsRow w.heap.size 40 33 v (l.filter p).length (cellsOf (encKI .u64) (l.filter p)) ∧ Below w.heap.size w w' := by
  have O0 := Lib.hid (show World.ownsRow w w.heap.size 40 33 (.slice none 0 0) ((l.take 0).filter p).length (cellsOf (encKI .u64) ((l.take 0).filter p)) from ⟨by simp [cellsOf], .inl ⟨rfl, rfl⟩⟩)
  have HL := Lib.hid hl
  have HP := Lib.hid hp
  have HN := Lib.hid hn
  have BR := Lib.hid (Below.refl w.heap.size w)
  clear hl hp
  go_enter Try.func16, Try.ntmps16
  go_wp2_with fail
  go_loopw [5, 10] (fun so si wr => ∃ j : Nat, si = .int .i64 j ∧ j ≤ l.length ∧ Hid (wr.ownsRow w.heap.size 40 33 so ((l.take j).filter p).length (cellsOf (encKI .u64) ((l.take j).filter p))) ∧ Hid (Below w.heap.size w wr)) (fun _ si _ => l.length - (intOf si).toNat)
  case atStart => exact ⟨0, rfl, by omega, O0, BR⟩
  case round =>
    clear O0 BR
    obtain ⟨j, rfl, hj, OW, HB⟩ := hrel
    by_cases hlt : j < l.length
    · have hd : decide ((j : Int) < (l.length : Int)) = true := by simp; omega
      obtain ⟨g1, o1, hA, hg, hc⟩ := (HL.out.below HB.out).at (encKI_len .u64) hlt
      obtain ⟨x, hx⟩ : ∃ x, l[j]'hlt = x := ⟨_, rfl⟩
      rw [hx] at hc
      subst hA
      have HX := Lib.hid hc
      have hi0 : (0 : Int) ≤ (j : Int) := by omega
      have hi1 : (j : Int) < (l.length : Int) := by omega
      obtain ⟨q, hq⟩ : ∃ q, p x = q := ⟨_, rfl⟩
      have HT := Lib.hid (show (l.take (j + 1)).filter p = (l.take j).filter p ++ (if q = true then [x] else []) by
        rw [List.take_succ_eq_append_getElem hlt, hx, List.filter_append, ← hq]
        cases hpx : p x <;> simp [hpx])
      have HLL := Lib.hid (show ((l.take j).filter p).length ≤ 1000 by
        have h1 := List.length_filter_le p (l.take j)
        have h2 := HN.out
        rw [List.length_take] at h1
        omega)
      have HC := Lib.hid (fun W (h : Below w.heap.size w W) => hq ▸ HP.out x W h)
      have HJ := Lib.hid (show j + 1 ≤ l.length from hlt)
      have W0 := Lib.hid (HB.out.size)
      clear hx hc hg hq hlt
      cases q
      · go_wp2_with (first
          | ((with_reducible refine at_load 12 ?_); refine tyIt.wpList_load rfl (.tmp 12) rfl g1 (o1 + j * 33) rfl x HX.out ?_)
          | ((with_reducible refine at_store 7 13 ?_); refine tyItc.wpList_store rfl (.tmp 7) (.tmp 13) rfl rfl wr.heap.size x rfl rfl 40 _ (Blk.new wr _ _) rfl ?_; intro w3 o3 b3
             have e3 : Below wr.heap.size wr w3 := ((Below.refl _ _).alloc (Nat.le_refl _) _).trans (o3.below (by simp))
             have B3 := Lib.hid (HB.out.trans (e3.mono HB.out.size))
             have O3 := Lib.hid (iown_below OW.out e3)
             have K3 := Lib.hid b3
             have HC3 := Lib.hid (HC.out w3 B3.out)
             clear o3 b3 e3)
          | ((with_reducible refine at_load 7 ?_); refine tyItc.wpList_load rfl (.tmp 7) rfl wr.heap.size 0 rfl x (RowC.of_blk K3.out) ?_)
          | (go_at_fn g; refine HC3.out.mono ?_; rintro e w4 ⟨rfl, b4⟩
             have B4 := Lib.hid (B3.out.trans (b4.mono B3.out.size))
             have O4 := Lib.hid (iown_below O3.out b4)
             have K4 := Lib.hid (below_blk b4 K3.out K3.out.lt)
             clear b4)
          | fail)
        go_roundw
        case rel => have h1 := HN.out; have h2 := HJ.out; exact ⟨j + 1, by go_num, HJ.out, Lib.hid (iown_congr O4.out (by rw [HT.out]; simp)), B4⟩
        case measure => have h1 := HN.out; have h2 := HJ.out; simp [intOf]; omega
      · go_wp2_with (first
          | ((with_reducible refine at_load 12 ?_); refine tyIt.wpList_load rfl (.tmp 12) rfl g1 (o1 + j * 33) rfl x HX.out ?_)
          | ((with_reducible refine at_store 7 13 ?_); refine tyItc.wpList_store rfl (.tmp 7) (.tmp 13) rfl rfl wr.heap.size x rfl rfl 40 _ (Blk.new wr _ _) rfl ?_; intro w3 o3 b3
             have e3 : Below wr.heap.size wr w3 := ((Below.refl _ _).alloc (Nat.le_refl _) _).trans (o3.below (by simp))
             have B3 := Lib.hid (HB.out.trans (e3.mono HB.out.size))
             have O3 := Lib.hid (iown_below OW.out e3)
             have K3 := Lib.hid b3
             have HC3 := Lib.hid (HC.out w3 B3.out)
             clear o3 b3 e3)
          | ((with_reducible refine at_load 7 ?_); refine tyItc.wpList_load rfl (.tmp 7) rfl wr.heap.size 0 rfl x (RowC.of_blk K4.out) ?_)
          | ((with_reducible refine at_load 7 ?_); refine tyItc.wpList_load rfl (.tmp 7) rfl wr.heap.size 0 rfl x (RowC.of_blk K3.out) ?_)
          | (go_at_fn g; refine HC3.out.mono ?_; rintro e w4 ⟨rfl, b4⟩
             have B4 := Lib.hid (B3.out.trans (b4.mono B3.out.size))
             have O4 := Lib.hid (iown_below O3.out b4)
             have K4 := Lib.hid (below_blk b4 K3.out K3.out.lt)
             clear b4)
          | ((with_reducible refine at_buildSlice 19 ?_); refine tyIt.wpList_build rfl zsIt 1 _ rfl [x] rfl (by omega) (by omega) (by kernel_rfl) ?_)
          | ((with_reducible refine at_appendg 20 17 19 ?_); refine tyIt.wpList_append1 rfl zcIt 40 zbIt (by omega) (.tmp 17) (.tmp 19) rfl w.heap.size _ ((l.take j).filter p) rfl (O4.out.alloc _) _ 1 x rfl (Blk.new _ _ _) (by have := HLL.out; omega) (by have := B4.out.size; simp; omega) ?_; intro v5 w5 p5 g5
             have O5 := Lib.hid (iown_congr p5 HT.out.symm)
             have B5 := Lib.hid ((B4.out.alloc B4.out.size _).trans (iown_grown (O4.out.alloc _) g5 (by have := B4.out.size; simp; omega)))
             clear p5 g5))
        go_roundw
        case rel => have h1 := HN.out; have h2 := HJ.out; exact ⟨j + 1, by go_num, HJ.out, O5, B5⟩
        case measure => have h1 := HN.out; have h2 := HJ.out; simp [intOf]; omega
    · have hd : decide ((j : Int) < (l.length : Int)) = false := by simp; omega
      have OWA := Lib.hid (iown_congr OW.out (show (l.take j).filter p = l.filter p by rw [List.take_of_length_le (by omega)]))
      go_wp2_with fail
      go_ret
      exact ⟨_, rfl, OWA.out, HB.out⟩
/-- the place of the first one of which p holds, or -1 -/
def firstIt (p : ItV → Bool) (l : List ItV) : Int := if l.any p = true then (l.findIdx p : Int) else -1
theorem firstIt_at (p : ItV → Bool) (l : List ItV) (k : Nat) (hk : k < l.length) (hp : p l[k] = true) (hb : ∀ j (h : j < l.length), j < k → p l[j] = false) : firstIt p l = k := by
  unfold firstIt
  rw [if_pos (List.any_eq_true.2 ⟨_, List.getElem_mem hk, hp⟩)]
  congr 1
  exact (List.findIdx_eq hk).2 ⟨hp, fun j hj => hb j (by omega) hj⟩
theorem firstIt_none (p : ItV → Bool) (l : List ItV) (hb : ∀ j (h : j < l.length), p l[j] = false) : firstIt p l = -1 := by
  unfold firstIt
  rw [if_neg]
  intro h
  obtain ⟨x, hx, hp⟩ := List.any_eq_true.1 h
  obtain ⟨i, hi, rfl⟩ := List.getElem_of_mem hx
  rw [hb i hi] at hp; cases hp
theorem firstIt_geq (p : ItV → Bool) (l : List ItV) : decide ((0 : Int) ≤ firstIt p l) = l.any p := by
  unfold firstIt
  cases l.any p <;> simp
set_option maxRecDepth 20000 in
set_option maxHeartbeats 1000000 in
theorem iIndexFunc_any (A : Option Addr) (c : Nat) (l : List ItV) (B : Nat) (w : World) (hl : l.length ≤ 1000000) (hB : B ≤ w.heap.size) (h : RowIn (encKI .u64) 33 w B A c l)
    (g : Nat) (cb : Array Value) (p : ItV → Bool) (eg : ∀ args w, (callFunc g args).run Try.prog w = .ok (.enter g args) w)
    (hp : ∀ x W, Below w.heap.size w W → Calls Try.prog g (#[.agg ((encKI .u64) x).toArray] ++ cb) W fun e w' => e = .returned (.bool (p x)) ∧ Below W.heap.size W w') :
    Calls Try.prog 24 #[.slice A l.length c, .func (.func g) #[] cb] w fun e w' => e = .returned (.int .i64 (firstIt p l)) ∧ Below w.heap.size w w' := by
  obtain ⟨r, hr⟩ : ∃ r, firstIt p l = r := ⟨_, rfl⟩
  rw [hr]
  have HR := Lib.hid hr
  clear hr
  obtain ⟨n, hn⟩ : ∃ n, l.length = n := ⟨_, rfl⟩
  have HN := Lib.hid hn
  rw [hn] at hl
  have HH := Lib.hid h
  have HP := Lib.hid hp
  clear h hp
  rw [hn]
  clear hn
  go_enter Try.func24, Try.ntmps24
  go_wp2_with fail
  go_loopw [5, 8] (fun _ i wr => ∃ k : Nat, i = .int .i64 k ∧ k ≤ n ∧ Hid (∀ j (h : j < l.length), j < k → p l[j] = false) ∧ Hid (Below w.heap.size w wr)) (fun _ i _ => n - (intOf i).toNat)
  case atStart => exact ⟨0, rfl, by omega, Lib.hid (fun j h1 h2 => absurd h2 (Nat.not_lt_zero _)), Lib.hid (Below.refl _ _)⟩
  case round =>
    obtain ⟨k, rfl, hk, HI, HW⟩ := hrel
    by_cases hlt : k < n
    · have hk' : k < l.length := by rw [HN.out]; exact hlt
      obtain ⟨gg, o, rfl, hg, hc⟩ := HH.out.cells (by intro e; subst e; simp at hk')
      have HX := Lib.hid ((hc.below HW.out (by omega)).at (encKI_len .u64) hk')
      clear hc
      obtain ⟨x, hx⟩ : ∃ x, l[k]'hk' = x := ⟨_, rfl⟩
      rw [hx] at HX
      have HE := Lib.hid hx
      clear hx
      have d1 : (0 : Int) ≤ (k : Int) := by omega
      have d2 : (k : Int) < (n : Int) := by omega
      have HC := Lib.hid (HP.out x wr HW.out)
      obtain ⟨b, hb⟩ : ∃ b, p x = b := ⟨_, rfl⟩
      rw [hb] at HC
      have HB := Lib.hid hb
      clear hb
      cases b
      · go_wp2_with (first
          | ((with_reducible refine at_loadg 14 ?_); refine tyIt.wpList_load (by rfl) (.tmp 14) rfl gg _ rfl x HX.out ?_)
          | (go_at_fn g; refine HC.out.mono ?_; rintro e w2 ⟨rfl, b2⟩))
        go_roundw
        case rel =>
          refine ⟨k + 1, by go_num, by omega, Lib.hid (fun j h1 h2 => ?_), Lib.hid (HW.out.trans (b2.mono HW.out.size))⟩
          by_cases e : j = k
          · subst e; rw [HE.out]; exact HB.out
          · exact HI.out j h1 (by omega)
        case measure => simp [intOf]; omega
      · go_wp2_with (first
          | ((with_reducible refine at_loadg 14 ?_); refine tyIt.wpList_load (by rfl) (.tmp 14) rfl gg _ rfl x HX.out ?_)
          | (go_at_fn g; refine HC.out.mono ?_; rintro e w2 ⟨rfl, b2⟩))
        go_ret
        refine ⟨?_, HW.out.trans (b2.mono HW.out.size)⟩
        rw [← HR.out, firstIt_at p l k hk' (by rw [HE.out]; exact HB.out) HI.out]
        rfl
    · go_wp2_with fail
      go_ret
      refine ⟨?_, HW.out⟩
      rw [← HR.out, firstIt_none p l (fun j hj => HI.out j hj (by have := HN.out; omega))]
      rfl
theorem iContainsFunc_any (A : Option Addr) (c : Nat) (l : List ItV) (B : Nat) (w : World) (hl : l.length ≤ 1000000) (hB : B ≤ w.heap.size) (h : RowIn (encKI .u64) 33 w B A c l)
    (g : Nat) (cb : Array Value) (p : ItV → Bool) (eg : ∀ args w, (callFunc g args).run Try.prog w = .ok (.enter g args) w)
    (hp : ∀ x W, Below w.heap.size w W → Calls Try.prog g (#[.agg ((encKI .u64) x).toArray] ++ cb) W fun e w' => e = .returned (.bool (p x)) ∧ Below W.heap.size W w') :
    Calls Try.prog 19 #[.slice A l.length c, .func (.func g) #[] cb] w fun e w' => e = .returned (.bool (l.any p)) ∧ Below w.heap.size w w' := by
  have HC := Lib.hid (iIndexFunc_any A c l B w hl hB h g cb p eg hp)
  have HQ := firstIt_geq p l
  obtain ⟨q, hq⟩ : ∃ q, firstIt p l = q := ⟨_, rfl⟩
  rw [hq] at HC HQ
  obtain ⟨r, hr⟩ : ∃ r, l.any p = r := ⟨_, rfl⟩
  rw [hr] at HQ ⊢
  clear hq hr h hp
  go_enter Try.func19, Try.ntmps19
  go_wp2_with (go_at_call 24; refine HC.out.mono ?_; rintro e w2 ⟨rfl, b2⟩)
  go_ret
  exact ⟨by first | (rw [← HQ]; rfl) | rfl, b2⟩
def endA (n : Nat) (A : Option Addr) (l : List ItV) : Option Addr := cutA 33 l.length (l.length - n) A
theorem end_row {w : World} {B c n : Nat} {A : Option Addr} {l : List ItV} (h : RowIn (encKI .u64) 33 w B A c l) : RowIn (encKI .u64) 33 w B (endA n A l) (l.drop (l.length - n)).length (l.drop (l.length - n)) := by
  have := h.trim.drop (encKI_len .u64) (l.length - n) (by omega)
  have e : l.length - (l.length - n) = (l.drop (l.length - n)).length := by rw [List.length_drop]
  rw [e] at this
  exact this
set_option maxRecDepth 20000 in
set_option maxHeartbeats 2000000 in
theorem end_any (A : Option Addr) (c n : Nat) (l : List ItV) (w : World) (hn : l.length ≤ 1000) (hk : n ≤ 1000) (hc : l.length ≤ c) :
    Calls Try.prog 18 #[.slice A l.length c, .int .i64 (n : Int)] w fun e w' => e = .returned (.slice (endA n A l) (l.drop (l.length - n)).length (l.drop (l.length - n)).length) ∧ w' = w := by
  obtain ⟨s, hs⟩ : ∃ s, l.length - n = s := ⟨_, rfl⟩
  have hmx2 : max (0 : Int) ((l.length : Int) - (n : Int)) = (s : Int) := by omega
  have hsw : IntKind.i64.wrap ((l.length : Int) - (n : Int)) = (l.length : Int) - (n : Int) := by rw [IntKind.wrap_i64]; omega
  have hsl : ∀ W, (Instr.slice 22 (.slice A l.length c) (some (.int .i64 (s : Int))) (some (.int .i64 (l.length : Int))) (some (.int .i64 (l.length : Int)))).run Try.prog W = .ok (.slice (endA n A l) (l.drop (l.length - n)).length (l.drop (l.length - n)).length) W := fun W => by
    have := tyIt.slice_full W A l.length c s (l.drop (l.length - n)).length (by rw [List.length_drop]; omega) hc
    unfold endA
    rw [hs] at this ⊢
    exact this
  clear hs
  go_enter Try.func18, Try.ntmps18
  go_wp2_with fail
  go_ret
  exact ⟨by rw [List.length_drop]; rfl, rfl⟩
theorem end4_any (A : Option Addr) (c : Nat) (l : List ItV) (w : World) (hn : l.length ≤ 1000) (hc : l.length ≤ c) :
    Calls Try.prog 18 #[.slice A l.length c, .int .i64 4] w fun e w' => e = .returned (.slice (endA 4 A l) (l.drop (l.length - 4)).length (l.drop (l.length - 4)).length) ∧ w' = w := end_any A c 4 l w hn (by decide) hc
theorem putI_end (l : List ItV) (id : K32) (now : IntV .u64) : putI l id now = (l.filter (fun x => !(decide (x.1 = id)))).drop ((l.filter (fun x => !(decide (x.1 = id)))).length - 4) ++ [(id, now)] := by
  unfold putI addI
  rw [List.length_append, List.length_singleton, List.drop_append_of_le_length (by omega)]
  congr 2
set_option maxRecDepth 20000 in
set_option maxHeartbeats 2000000 in
theorem pHas_i : RHasOk := by
  intro A c l id now w hl hn
  have B0 := Lib.hid (show Below w.heap.size w ((w.alloc (.cells (encK id).toArray 24)).alloc (.cells #[.int .u64 now.1] 25)) from ((Below.refl w.heap.size w).alloc (Nat.le_refl _) _).alloc (by simp) _)
  have K0 := (Blk.new w 24 (encK id).toArray).alloc (.cells #[.int .u64 now.1] 25)
  have U0 := blk_new (w := w.alloc (.cells (encK id).toArray 24)) (g := w.heap.size + 1) 25 #[.int .u64 now.1] (by simp)
  have hmf : ∀ (fn : Fn) (first cap : Array Value) (w : World), (Instr.makeFunc fn first cap).run Try.prog w = .ok (.func fn first cap) w := fun _ _ _ _ => rfl
  have HC := Lib.hid (iContainsFunc_any A c l w.heap.size ((w.alloc (.cells (encK id).toArray 24)).alloc (.cells #[.int .u64 now.1] 25)) (by omega) B0.out.size (hl.below B0.out) 20 #[.pointer (some ⟨w.heap.size, 0, none⟩), .pointer (some ⟨w.heap.size + 1, 0, none⟩)] (fun x => decide (x.1 = id) && youngF x now.1) iEntersH
    (fun x W hb => iHas1_w w.heap.size (w.heap.size + 1) id now x W (below_blk hb K0 K0.lt) (below_blk hb U0 U0.lt)))
  obtain ⟨r, hr⟩ : ∃ r, (l.any fun x => decide (x.1 = id) && youngF x now.1) = r := ⟨_, rfl⟩
  rw [hr] at HC
  unfold hasI
  rw [hr]
  clear hr hl hn K0 U0
  go_enter Try.func12, Try.ntmps12
  go_wp2_with fail
  with_reducible refine HC.out.mono ?_
  rintro e w2 ⟨rfl, b2⟩
  have B2 := Lib.hid (B0.out.trans (b2.mono B0.out.size))
  clear b2
  go_wp2_with fail
  go_ret
  exact ⟨rfl, B2.out⟩
set_option maxRecDepth 20000 in
set_option maxHeartbeats 2000000 in
theorem pOld_i : ROldOk := by
  intro A c l now w hl hn
  have B0 := Lib.hid (show Below w.heap.size w (w.alloc (.cells #[.int .u64 now.1] 25)) from (Below.refl w.heap.size w).alloc (Nat.le_refl _) _)
  have U0 := Blk.new w 25 #[.int .u64 now.1]
  have hmf : ∀ (fn : Fn) (first cap : Array Value) (w : World), (Instr.makeFunc fn first cap).run Try.prog w = .ok (.func fn first cap) w := fun _ _ _ _ => rfl
  have HC := Lib.hid (those_any A c l (w.alloc (.cells #[.int .u64 now.1] 25)) (by omega) ((hl.below B0.out).more B0.out.size) 23 #[.pointer (some ⟨w.heap.size, 0, none⟩)] (fun x => youngF x now.1) iEntersO
    (fun x W hb => iOld1_w w.heap.size now x W (below_blk hb U0 U0.lt)))
  unfold oldI
  obtain ⟨R, hR⟩ : ∃ R, (l.filter fun x => youngF x now.1) = R := ⟨_, rfl⟩
  rw [hR] at HC ⊢
  clear hR hl hn U0
  go_enter Try.func14, Try.ntmps14
  go_wp2_with fail
  with_reducible refine HC.out.mono ?_
  rintro e w2 ⟨v, rfl, p2, b2⟩
  obtain ⟨A5, c5, rfl, r5⟩ := RowIn.of_own (encKI_len .u64) p2
  have R5 := Lib.hid r5
  have B2 := Lib.hid (B0.out.trans (b2.mono B0.out.size))
  clear b2 p2 r5
  go_wp2_with fail
  go_ret
  exact ⟨A5, c5, rfl, R5.out, B2.out⟩
structure PutQ (w : World) (id : K32) (F : List ItV) (A : Option Addr) (c : Nat) (W : World) : Prop where
  below : Below w.heap.size w W
  kb : Blk W w.heap.size 24 (encK id).toArray
  row : RowIn (encKI .u64) 33 W W.heap.size A c F
section
variable {w W W' : World} {A : Option Addr} {c : Nat} {F : List ItV} {id : K32}
theorem PutQ.on (h : PutQ w id F A c W) (hb : Below W.heap.size W W') : PutQ w id F A c W' :=
  ⟨h.below.trans (hb.mono h.below.size), below_blk hb h.kb h.kb.lt, (h.row.below hb).more hb.size⟩
theorem PutQ.drew (h : PutQ w id F A c W) : PutQ w id F A c W.drew := ⟨h.below.drew, h.kb, h.row.drewN 1⟩
end
set_option maxRecDepth 20000 in
set_option maxHeartbeats 2000000 in
theorem pPut_i : RPutOk := by
  intro A c l id now w hl hn
  have B0 := Lib.hid (show Below w.heap.size w (w.alloc (.cells (encK id).toArray 24)) from (Below.refl w.heap.size w).alloc (Nat.le_refl _) _)
  have K0 := Lib.hid (Blk.new w 24 (encK id).toArray)
  have hmf : ∀ (fn : Fn) (first cap : Array Value) (w : World), (Instr.makeFunc fn first cap).run Try.prog w = .ok (.func fn first cap) w := fun _ _ _ _ => rfl
  have HC := Lib.hid (those_any A c l (w.alloc (.cells (encK id).toArray 24)) (by omega) ((hl.below B0.out).more B0.out.size) 17 #[.pointer (some ⟨w.heap.size, 0, none⟩)] (fun x => !(decide (x.1 = id))) iEntersP
    (fun x W hb => iPut1_w w.heap.size id x W (below_blk hb K0.out K0.out.lt)))
  have hpe := putI_end l id now
  obtain ⟨R, hR⟩ : ∃ R, putI l id now = R := ⟨_, rfl⟩
  have hfl := Nat.le_trans (List.length_filter_le (fun x : ItV => !(decide (x.1 = id))) l) hn
  obtain ⟨F, hF⟩ : ∃ F, (l.filter (fun x => !(decide (x.1 = id)))) = F := ⟨_, rfl⟩
  rw [hF] at HC hpe hfl
  rw [hR] at hpe ⊢
  have HF := Lib.hid hpe.symm
  have HN := Lib.hid hfl
  clear hR hl hn hF hpe hfl
  go_enter Try.func10, Try.ntmps10
  go_wp2_with fail
  with_reducible refine HC.out.mono ?_
  rintro e w2 ⟨v, rfl, p2, b2⟩
  obtain ⟨A5, c5, rfl, r5⟩ := RowIn.of_own (encKI_len .u64) p2
  have Q2 := Lib.hid (show PutQ w id F A5 c5 w2 from ⟨B0.out.trans (b2.mono B0.out.size), below_blk b2 K0.out K0.out.lt, r5⟩)
  clear b2 p2 r5 B0 K0 HC
  go_wp2_with fail
  have P1 := Lib.hid Q2.out.drew
  clear Q2
  refine wp_region_held_drew (S := fun W => RowC W w.heap.size 0 (encK id)) (by kernel_rfl) (RowC.of_blk P1.out.kb) ?_
  obtain ⟨wd, hwd⟩ : ∃ wd, w2.drew = wd := ⟨_, rfl⟩
  rw [hwd] at P1 ⊢
  clear hwd
  intro hS
  refine wpAnyH_take (i := 0) (v := .slice A5 F.length c5) rfl (by kernel_rfl) (by kernel_rfl) (by kernel_rfl) (fun _ _ _ h => h) (Or.inl ⟨by rfl, fun W _ => by go_simp; try with_reducible rfl⟩) hS ?_
  simp only [Act.put, List.getElem_toArray, List.getElem_cons_zero, List.setIfInBounds_toArray, List.set_cons_succ, List.set_cons_zero]
  refine wpAnyH_take (i := 2) (v := .agg (encK id).toArray) rfl (by kernel_rfl) (by kernel_rfl) (by kernel_rfl) (fun _ _ _ h => h) (tyKc.yieldsIf_load (by rfl) (.tmp 4) rfl w.heap.size 0 rfl id (fun _ h => h)) hS ?_
  simp only [Act.put, List.getElem_toArray, List.getElem_cons_zero, List.getElem_cons_succ, List.setIfInBounds_toArray, List.set_cons_succ, List.set_cons_zero]
  refine wpAnyH_take (i := 3) (v := .int .u64 now.1) rfl (by kernel_rfl) (by kernel_rfl) (by kernel_rfl) (fun _ _ _ h => h) (Or.inl ⟨by rfl, fun W _ => by go_simp; try with_reducible rfl⟩) hS ?_
  simp only [Act.put, List.getElem_toArray, List.getElem_cons_zero, List.getElem_cons_succ, List.setIfInBounds_toArray, List.set_cons_succ, List.set_cons_zero]
  refine wpAnyH_take (i := 4) (v := .agg ((encKI .u64) (id, now)).toArray) rfl (by kernel_rfl) (by kernel_rfl) (by kernel_rfl) (fun _ _ _ h => h) (yieldsIf_build (by rfl) 40 #[(0, .tmp 13), (1, .tmp 14)] rfl ((encKI .u64) (id, now)).toArray ((show _ = Try.prog.built 40 [(0, Value.agg (encK id).toArray), (1, Value.int .u64 now.1)] from congrArg (Try.prog.built 40) (by kernel_rfl)).trans (ibuilt _ (.inr rfl) id now))) hS ?_
  simp only [Act.put, List.getElem_toArray, List.getElem_cons_zero, List.getElem_cons_succ, List.setIfInBounds_toArray, List.set_cons_succ, List.set_cons_zero]
  refine wpAnyH_ready (rs := [1, 5]) (by kernel_rfl) (by simp) ?_
  refine AllReadyH.cons rfl (fun Kq hK => ?_) (AllReadyH.cons rfl (fun Kq hK => ?_) AllReadyH.nil)
  · go_simp
    with_reducible refine (end4_any A5 c5 F _ (by have := HN.out; omega) P1.out.row.le).mono ?_
    rintro e x1 ⟨rfl, hx1⟩
    rw [hx1]
    clear hx1 x1
    refine hK.out _ _ hS (fun hS => ?_)
    clear hK Kq
    try simp only [Act.put, List.getElem_toArray, List.getElem_cons_zero, List.getElem_cons_succ, List.setIfInBounds_toArray, List.set_cons_succ, List.set_cons_zero]
    refine wpAnyH_ready (rs := [5]) (by kernel_rfl) (by simp) ?_
    refine AllReadyH.cons rfl (fun Kq hK => ?_) AllReadyH.nil
    refine tyIt.step_build rfl zsIt 1 _ rfl [(id, now)] rfl (by omega) (by omega) (by kernel_rfl) ?_
    have P2 := Lib.hid (P1.out.on ((Below.refl _ _).alloc (Nat.le_refl _) (.cells (cellsOf (encKI .u64) [(id, now)]).toArray 40)))
    have KB := Lib.hid (show Blk (wd.alloc (.cells (cellsOf (encKI .u64) [(id, now)]).toArray 40)) wd.heap.size 40 (cellsOf (encKI .u64) [(id, now)]).toArray from Blk.new wd 40 _)
    refine hK.out _ _ (RowC.of_blk P2.out.kb) (fun hS => ?_)
    clear hK Kq
    try simp only [Act.put, List.getElem_toArray, List.getElem_cons_zero, List.getElem_cons_succ, List.setIfInBounds_toArray, List.set_cons_succ, List.set_cons_zero]
    refine wpAnyH_ready (rs := [6]) (by kernel_rfl) (by simp) ?_
    refine AllReadyH.cons rfl (fun Kq hK => ?_) AllReadyH.nil
    refine tyIt.step_appendFull rfl zcIt 40 zbIt (by omega) (.tmp 12) (.tmp 16) rfl _ (endA 4 A5 F) (F.drop (F.length - 4)).length (F.drop (F.length - 4)) rfl rfl (end_row P2.out.row) _ 1 (id, now) rfl KB.out (by have := HN.out; rw [List.length_drop]; omega) ?_
    intro v5 w5 p5 g5
    rw [HF.out] at p5
    have P5 := Lib.hid (P2.out.below.trans (((Below.refl _ _).grown g5 (Nat.le_refl _) (fun _ h => by cases h)).mono P2.out.below.size))
    obtain ⟨A6, c6, rfl, r6⟩ := RowIn.of_own (encKI_len .u64) p5
    have I6 := Lib.hid r6
    refine hK.out _ _ (RowC.of_blk (below_blk ((Below.refl _ _).grown g5 (Nat.le_refl _) (fun _ h => by cases h)) P2.out.kb P2.out.kb.lt)) (fun hS => ?_)
    clear hK Kq p5 g5 r6
    try simp only [Act.put, List.getElem_toArray, List.getElem_cons_zero, List.getElem_cons_succ, List.setIfInBounds_toArray, List.set_cons_succ, List.set_cons_zero]
    refine wpAnyH_take (i := 7) (v := .slice A6 R.length c6) rfl (by kernel_rfl) (by kernel_rfl) (by kernel_rfl) (fun _ _ _ h => h) (Or.inl ⟨by rfl, fun W _ => by go_simp; try with_reducible rfl⟩) hS ?_
    simp only [Act.put, List.getElem_toArray, List.getElem_cons_zero, List.getElem_cons_succ, List.setIfInBounds_toArray, List.set_cons_succ, List.set_cons_zero]
    refine wpAnyH_done (by kernel_rfl) ?_ _
    go_wp2_with fail
    go_ret
    exact ⟨A6, c6, rfl, I6.out, P5.out⟩
  · refine tyIt.step_build rfl zsIt 1 _ rfl [(id, now)] rfl (by omega) (by omega) (by kernel_rfl) ?_
    have P2 := Lib.hid (P1.out.on ((Below.refl _ _).alloc (Nat.le_refl _) (.cells (cellsOf (encKI .u64) [(id, now)]).toArray 40)))
    have KB := Lib.hid (show Blk (wd.alloc (.cells (cellsOf (encKI .u64) [(id, now)]).toArray 40)) wd.heap.size 40 (cellsOf (encKI .u64) [(id, now)]).toArray from Blk.new wd 40 _)
    refine hK.out _ _ (RowC.of_blk P2.out.kb) (fun hS => ?_)
    clear hK Kq
    try simp only [Act.put, List.getElem_toArray, List.getElem_cons_zero, List.getElem_cons_succ, List.setIfInBounds_toArray, List.set_cons_succ, List.set_cons_zero]
    refine wpAnyH_ready (rs := [1]) (by kernel_rfl) (by simp) ?_
    refine AllReadyH.cons rfl (fun Kq hK => ?_) AllReadyH.nil
    go_simp
    with_reducible refine (end4_any A5 c5 F _ (by have := HN.out; omega) P2.out.row.le).mono ?_
    rintro e x1 ⟨rfl, hx1⟩
    rw [hx1]
    clear hx1 x1
    refine hK.out _ _ hS (fun hS => ?_)
    clear hK Kq
    try simp only [Act.put, List.getElem_toArray, List.getElem_cons_zero, List.getElem_cons_succ, List.setIfInBounds_toArray, List.set_cons_succ, List.set_cons_zero]
    refine wpAnyH_ready (rs := [6]) (by kernel_rfl) (by simp) ?_
    refine AllReadyH.cons rfl (fun Kq hK => ?_) AllReadyH.nil
    refine tyIt.step_appendFull rfl zcIt 40 zbIt (by omega) (.tmp 12) (.tmp 16) rfl _ (endA 4 A5 F) (F.drop (F.length - 4)).length (F.drop (F.length - 4)) rfl rfl (end_row P2.out.row) _ 1 (id, now) rfl KB.out (by have := HN.out; rw [List.length_drop]; omega) ?_
    intro v5 w5 p5 g5
    rw [HF.out] at p5
    have P5 := Lib.hid (P2.out.below.trans (((Below.refl _ _).grown g5 (Nat.le_refl _) (fun _ h => by cases h)).mono P2.out.below.size))
    obtain ⟨A6, c6, rfl, r6⟩ := RowIn.of_own (encKI_len .u64) p5
    have I6 := Lib.hid r6
    refine hK.out _ _ (RowC.of_blk (below_blk ((Below.refl _ _).grown g5 (Nat.le_refl _) (fun _ h => by cases h)) P2.out.kb P2.out.kb.lt)) (fun hS => ?_)
    clear hK Kq p5 g5 r6
    try simp only [Act.put, List.getElem_toArray, List.getElem_cons_zero, List.getElem_cons_succ, List.setIfInBounds_toArray, List.set_cons_succ, List.set_cons_zero]
    refine wpAnyH_take (i := 7) (v := .slice A6 R.length c6) rfl (by kernel_rfl) (by kernel_rfl) (by kernel_rfl) (fun _ _ _ h => h) (Or.inl ⟨by rfl, fun W _ => by go_simp; try with_reducible rfl⟩) hS ?_
    simp only [Act.put, List.getElem_toArray, List.getElem_cons_zero, List.getElem_cons_succ, List.setIfInBounds_toArray, List.set_cons_succ, List.set_cons_zero]
    refine wpAnyH_done (by kernel_rfl) ?_ _
    go_wp2_with fail
    go_ret
    exact ⟨A6, c6, rfl, I6.out, P5.out⟩
end Go.Proofs.Ytiboelfakajohaa
