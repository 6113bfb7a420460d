/- The reference's block: a block put to a hash, over a plain schedule. -/
import Derived.Test.YtgcopgnkfokphaaDoorRefK
import Derived.Test.YtgcopgnkfokphaaDoorRefW
import Derived.Test.YtgcopgnkfokphaaDoorGenA
import Derived.Deep.RegionHeld3
import Derived.StillTailTactics
import Derived.Deep.QuietTactic
import Derived.BigQuiet
namespace Go.Proofs.YtgcopgnkfokphaaDoor
open Go.RowKit
theorem vrun_succ (K W h : Nat → BitVec 32) (k : Nat) : vrun K W h (k + 1) = vstep K W (vrun K W h k) k := rfl
theorem uarr8_vstep (K W v : Nat → BitVec 32) (k : Nat) : uarr 8 (vstep K W v k) = #[.int .u32 (wv (T1 (v 4) (v 5) (v 6) (v 7) (K k) (W k) + T2 (v 0) (v 1) (v 2))), .int .u32 (wv (v 0)), .int .u32 (wv (v 1)), .int .u32 (wv (v 2)), .int .u32 (wv (v 3 + T1 (v 4) (v 5) (v 6) (v 7) (K k) (W k))), .int .u32 (wv (v 4)), .int .u32 (wv (v 5)), .int .u32 (wv (v 6))] := rfl
theorem row_cell {w : World} {base g cap k : Nat} {f : Nat → BitVec 32} (h : SRow w base (.slice (some ⟨g, 0, none⟩) k cap) k (uarr k f).toList) (j : Nat) (hj : j < k) : w.cell? ⟨g, j, none⟩ = some (.int .u32 (wv (f j))) :=
  h.cellAt j _ (by rw [Array.getElem?_toList, uarr_get _ _ _ hj])
theorem xor3 (x : BitVec 32) : bits BinOp.xor IntKind.u32 (bits BinOp.xor IntKind.u32 (wv (ror x 7)) (wv (ror x 18))) (wv x / 8) = wv (sg0 x) := by
  rw [u32_xor, show (8 : Int) = 2 ^ 3 from rfl, u32_shr, u32_xor]; rfl
theorem xor10 (x : BitVec 32) : bits BinOp.xor IntKind.u32 (bits BinOp.xor IntKind.u32 (wv (ror x 17)) (wv (ror x 19))) (wv x / 1024) = wv (sg1 x) := by
  rw [u32_xor, show (1024 : Int) = 2 ^ 10 from rfl, u32_shr, u32_xor]; rfl
set_option maxRecDepth 100000 in
set_option maxHeartbeats 4000000 in
theorem refBlock_any (h : Nat → BitVec 32) (s : ByteArray) (hs : s.size = 64) (w : World) :
    Calls Tryd.prog 46 #[.agg (uarr 8 h), .string s] w fun e w' => e = .returned (.agg (uarr 8 (compressF kF (wordL s.data.toList) h))) ∧ Below w.heap.size w w' := by
  have HS := Lib.hid hs
  obtain ⟨f, hf⟩ : ∃ f, wordL s.data.toList = f := ⟨_, rfl⟩
  rw [hf]
  have HF := Lib.hid hf
  clear hs hf
  go_enter Tryd.func46, Tryd.ntmps46
  go_wp2_with fail
  have B0 : Below w.heap.size w ((w.alloc (.cells (uarr 8 h) 78)).alloc (.cells (uarr 8 (fun _ => 0)) 78)) := ((Below.refl _ _).alloc (Nat.le_refl _) _).alloc (by simp) _
  refine (refK_any _).mono ?_
  rintro e w1 ⟨rfl, b1⟩
  have KH := Lib.hid (below_blk b1 ((Blk.new w 78 (uarr 8 h)).alloc _) (by simp; omega))
  have KR := Lib.hid (below_blk b1 (blk_new (w := w.alloc (.cells (uarr 8 h) 78)) 78 (uarr 8 (fun _ => 0)) (g := w.heap.size + 1) (by simp)) (by simp))
  have B1 := B0.trans (b1.mono (by simp; omega))
  clear b1 B0
  go_wp2_with ((with_reducible refine at_store 5 19 ?_); refine wpList_store_arr rfl 87 (.tmp 5) (.tmp 19) rfl rfl w1.heap.size (uarr 64 kF) rfl rfl 87 _ (Blk.new w1 _ _) (by rw [uarr_size]; kernel_rfl) (by rw [uarr_size]; simp) (uarr_one _ _) ?_; intro w2 o2 b2)
  have B2 := (B1.alloc B1.size _).trans (o2.below (by simp; exact B1.size))
  have KK := Lib.hid b2
  have e1 : w1.heap.size ∉ [w1.heap.size] → False := by simp
  clear e1
  have lh := KH.out.lt
  have lr := KR.out.lt
  replace KH := Lib.hid (o2.blk (KH.out.alloc _) (by simp; omega))
  replace KR := Lib.hid (o2.blk (KR.out.alloc _) (by simp; omega))
  obtain ⟨gk, hgk⟩ : ∃ g, w1.heap.size = g := ⟨_, rfl⟩
  rw [hgk] at KK lh lr
  rw [hgk]
  clear o2 b2 hgk B1
  refine (refWords_any s (by have := HS.out; omega) _).mono ?_
  rintro e w3 ⟨v, rfl, k3, b3⟩
  rw [show s.size / 4 = 16 by have := HS.out; omega, HF.out] at k3
  have lk := KK.out.lt
  obtain ⟨B, hB⟩ : ∃ B, w2.heap.size = B := ⟨_, rfl⟩
  rw [hB] at k3 b3 lk
  have B3 : Below w.heap.size w w3 := B2.trans (b3.mono (by have := B2.size; omega))
  have lB : B ≤ w3.heap.size := by have := b3.size; omega
  replace KH := Lib.hid (below_blk b3 KH.out (by omega))
  replace KR := Lib.hid (below_blk b3 KR.out (by omega))
  replace KK := Lib.hid (below_blk b3 KK.out (by omega))
  have K3 := Lib.hid k3
  have lw : w.heap.size ≤ B := by have := B2.size; omega
  clear k3 b3 hB B2
  have HB3 := Lib.hid B3
  clear B3
  go_wp2_with fail
  go_loopw [6, 7] (fun v i wr => ∃ k : Nat, 16 ≤ k ∧ k ≤ 64 ∧ i = .int .i64 k ∧ Hid (SRow wr B v k (uarr k (wsch f)).toList ∧ Blk wr w.heap.size 78 (uarr 8 h) ∧ Blk wr (w.heap.size + 1) 78 (uarr 8 (fun _ => 0)) ∧ Blk wr gk 87 (uarr 64 kF) ∧ Below w.heap.size w wr ∧ B ≤ wr.heap.size))
    (fun _ i _ => 64 - (intOf i).toNat)
  case atStart =>
    refine ⟨16, by omega, by omega, rfl, Lib.hid ⟨?_, KH.out, KR.out, KK.out, HB3.out, lB⟩⟩
    rw [uarr_congr 16 (wsch f) f (fun i hi => wsch_lo f i hi)]
    exact SRow.of_own K3.out
  case round =>
    clear K3 KH KR KK HB3
    obtain ⟨k, hk0, hk, rfl, HK⟩ := hrel
    by_cases hlt : k < 64
    · obtain ⟨g, cap, rfl, hgB, hg⟩ := HK.out.1.form (by omega)
      have c15 := row_cell HK.out.1 (k - 15) (by omega)
      have c2 := row_cell HK.out.1 (k - 2) (by omega)
      have c16 := row_cell HK.out.1 (k - 16) (by omega)
      have c7 := row_cell HK.out.1 (k - 7) (by omega)
      have hw := Lib.hid (wsch_hi f k hk0)
      obtain ⟨x15, hx⟩ : ∃ x, wsch f (k - 15) = x := ⟨_, rfl⟩
      rw [hx] at c15 hw
      clear hx
      obtain ⟨x2, hx⟩ : ∃ x, wsch f (k - 2) = x := ⟨_, rfl⟩
      rw [hx] at c2 hw
      clear hx
      obtain ⟨x16, hx⟩ : ∃ x, wsch f (k - 16) = x := ⟨_, rfl⟩
      rw [hx] at c16 hw
      clear hx
      obtain ⟨x7, hx⟩ : ∃ x, wsch f (k - 7) = x := ⟨_, rfl⟩
      rw [hx] at c7 hw
      clear hx
      have a1 : (0 : Int) ≤ (k : Int) - 15 := by omega
      have a2 : (0 : Int) ≤ (k : Int) - 2 := by omega
      have a3 : (0 : Int) ≤ (k : Int) - 16 := by omega
      have a4 : (0 : Int) ≤ (k : Int) - 7 := by omega
      have a5 : (k : Int) - 15 < k := by omega
      have a6 : (k : Int) - 2 < k := by omega
      have a7 : (k : Int) - 16 < k := by omega
      have a8 : (k : Int) - 7 < k := by omega
      have t1 : ((k : Int) - 15).toNat = k - 15 := by omega
      have t2 : ((k : Int) - 2).toNat = k - 2 := by omega
      have t3 : ((k : Int) - 16).toNat = k - 16 := by omega
      have t4 : ((k : Int) - 7).toNat = k - 7 := by omega
      have a9 : (16 : Int) ≤ k := by omega
      have a10 : (7 : Int) ≤ k := by omega
      have y3 : IntKind.i64.wrap ((k : Int) - 16) = (k : Int) - 16 := IntWalk.i64_in _ (by omega)
      have y4 : IntKind.i64.wrap ((k : Int) - 7) = (k : Int) - 7 := IntWalk.i64_in _ (by omega)
      go_wp2_with fail
      refine (refRot_any x15 7 (by omega) (by omega) _).mono ?_
      rintro e wa ⟨rfl, na, rfl⟩
      go_wp2_with fail
      refine (refRot_any x15 18 (by omega) (by omega) _).mono ?_
      rintro e wb ⟨rfl, nb, rfl⟩
      go_wp2_with fail
      refine (refRot_any x2 17 (by omega) (by omega) _).mono ?_
      rintro e wc ⟨rfl, nc, rfl⟩
      go_wp2_with fail
      refine (refRot_any x2 19 (by omega) (by omega) _).mono ?_
      rintro e wd ⟨rfl, nd, rfl⟩
      go_wp2_with fail
      rw [xor3, xor10]
      obtain ⟨s0, hs0⟩ : ∃ x, sg0 x15 = x := ⟨_, rfl⟩
      obtain ⟨s1, hs1⟩ : ∃ x, sg1 x2 = x := ⟨_, rfl⟩
      rw [hs0, hs1] at hw
      rw [hs0, hs1]
      clear hs0 hs1
      obtain ⟨nn, hnn⟩ : ∃ x, na + nb + nc + nd = x := ⟨_, rfl⟩
      rw [hnn]
      clear hnn
      have z1 := u32_addw x16 s0
      have z2 := u32_addw (x16 + s0) x7
      have z3 := u32_addw (x16 + s0 + x7) s1
      have HK2 := Lib.hid HK.out
      clear a1 a2 a5 a6 t1 t2 c15 c2
      go_region_held3 (fun w' => w'.cell? ⟨g, k - 16, none⟩ = some (.int .u32 (wv x16)) ∧ w'.cell? ⟨g, k - 7, none⟩ = some (.int .u32 (wv x7)))
        (first | go_keep | exact ⟨(hkeep (k - 16) (by omega)).trans ((World.cell?_alloc_lt _ _ ⟨g, k - 16, none⟩ hg).trans c16), (hkeep (k - 7) (by omega)).trans ((World.cell?_alloc_lt _ _ ⟨g, k - 7, none⟩ hg).trans c7)⟩)
        ((refine step_append1s rfl (.tmp 52) (.tmp 68) 89 rfl B 22 _ 4 Tryd.underlying89 u32_info rfl (by omega) g cap k _ (by rfl) (((HK2.out.1.drewN nn).drew).alloc _) wr.heap.size 1 _ (by rfl) (Blk.new (wr.drewN nn).drew _ _) rfl (by omega) (by have := HK2.out.2.2.2.2.2; simp; omega) ?_; intro v2 w2 o2 g2 hkeep))
      rw [← hw.out, ← uarr_snoc] at o2
      clear z1 z2 z3
      have O2 := Lib.hid o2
      have G2 := Lib.hid g2
      clear o2 g2 hkeep
      go_wp2_with fail
      go_roundw
      case rel =>
        have gg := G2.out
        have szl := HK2.out.2.2.2.2.2
        have b2 : Below B wr w2 := ((below_drewN (Below.refl B wr) (nn + 1))).trans ((Below.refl _ _).alloc (by simpa using szl) _ |>.trans gg)
        exact ⟨k + 1, by omega, by omega, by go_num, Lib.hid ⟨O2.out, below_blk b2 HK2.out.2.1 (by omega), below_blk b2 HK2.out.2.2.1 (by omega), below_blk b2 HK2.out.2.2.2.1 (by omega), HK2.out.2.2.2.2.1.trans (b2.mono lw), by have := b2.size; omega⟩⟩
      case measure => simp [intOf]; omega
    · have hk64 : k = 64 := by omega
      subst hk64
      obtain ⟨gw, cap, rfl, hgB, hgw⟩ := HK.out.1.form (by omega)
      clear hk hk0 hlt
      have KH2 := Lib.hid HK.out.2.1
      have HW := Lib.hid (fun (j : Nat) (hj : j < 64) => row_cell HK.out.1 j hj)
      have KR2 := Lib.hid HK.out.2.2.1
      have KK2 := Lib.hid HK.out.2.2.2.1
      have HB2 := Lib.hid HK.out.2.2.2.2.1
      have lr2 := HK.out.2.2.2.2.2
      have lh2 := KH2.out.lt
      have lq2 := KR2.out.lt
      clear HK
      go_wp2_with (first
        | ((with_reducible refine at_load 2 ?_); refine wpList_load_row rfl 78 (.tmp 2) rfl w.heap.size rfl 78 (uarr 8 h) (0, 0) _ KH2.out Tryd.underlying78 rfl (by rw [uarr_size]; kernel_rfl) ?_)
        | ((with_reducible refine at_store 12 70 ?_); refine wpList_store_arr rfl 78 (.tmp 12) (.tmp 70) rfl rfl wr.heap.size (uarr 8 h) rfl rfl 78 _ (Blk.new wr _ _) (by rw [uarr_size]; kernel_rfl) (by rw [uarr_size]; simp) (uarr_one _ _) ?_; intro w4 o4 b4))
      obtain ⟨gv, hgv⟩ : ∃ g, wr.heap.size = g := ⟨_, rfl⟩
      have KV := Lib.hid b4
      replace KH2 := Lib.hid (o4.blk (KH2.out.alloc _) (by simp; omega))
      replace KR2 := Lib.hid (o4.blk (KR2.out.alloc _) (by simp; omega))
      replace KK2 := Lib.hid (o4.blk (KK2.out.alloc _) (by simp; omega))
      replace HW := Lib.hid (fun (j : Nat) (hj : j < 64) => (o4.cell (p := ⟨gw, j, none⟩) (by simp; omega)).trans ((World.cell?_alloc_lt wr _ ⟨gw, j, none⟩ hgw).trans (HW.out j hj)))
      have HB4 := Lib.hid ((HB2.out.alloc HB2.out.size _).trans (o4.below (by simp; exact HB2.out.size)))
      rw [hgv] at KV hgw lr2 lh2 lq2
      rw [hgv]
      clear o4 b4 HB2 hgv
      go_loopw [13] (fun i wq => ∃ k : Nat, k ≤ 64 ∧ i = .int .i64 k ∧ Hid ((∀ j, j < 64 → wq.cell? ⟨gw, j, none⟩ = some (.int .u32 (wv (wsch f j)))) ∧ Blk wq w.heap.size 78 (uarr 8 h) ∧ Blk wq (w.heap.size + 1) 78 (uarr 8 (fun _ => 0)) ∧ Blk wq gk 87 (uarr 64 kF) ∧ Blk wq gv 78 (uarr 8 (vrun kF (wsch f) h k)) ∧ Below w.heap.size w wq)) (fun i _ => 64 - (intOf i).toNat)
      case atStart => exact ⟨0, by omega, rfl, Lib.hid ⟨HW.out, KH2.out, KR2.out, KK2.out, KV.out, HB4.out⟩⟩
      case round =>
        clear KH2 KR2 KK2 KV HB4 HW
        obtain ⟨k, hk, rfl, HK⟩ := hrel
        obtain ⟨v, hv⟩ : ∃ v, vrun kF (wsch f) h k = v := ⟨_, rfl⟩
        rw [hv] at HK
        have HV := Lib.hid hv
        clear hv
        by_cases hlt : k < 64
        · have cv : ∀ j, j < 8 → wr.cell? ⟨gv, j, none⟩ = some (.int .u32 (wv (v j))) := fun j hj => by rw [HK.out.2.2.2.2.1.cell j, uarr_get _ _ _ hj]
          have c0 := cv 0 (by omega)
          have c1 := cv 1 (by omega)
          have c2 := cv 2 (by omega)
          have c3 := cv 3 (by omega)
          have c4 := cv 4 (by omega)
          have c5 := cv 5 (by omega)
          have c6 := cv 6 (by omega)
          have c7 := cv 7 (by omega)
          clear cv
          have ck : wr.cell? ⟨gk, k, none⟩ = some (.int .u32 (wv (kF k))) := by rw [HK.out.2.2.2.1.cell k, uarr_get _ _ _ hlt]
          have cw := HK.out.1 k hlt
          obtain ⟨kc, hkc⟩ : ∃ x, kF k = x := ⟨_, rfl⟩
          rw [hkc] at ck
          have HKC := Lib.hid hkc
          obtain ⟨xw, hxw⟩ : ∃ x, wsch f k = x := ⟨_, rfl⟩
          rw [hxw] at cw
          have HXW := Lib.hid hxw
          clear hkc hxw
          have i0 : (0 : Int) ≤ k := by omega
          have i1 : (k : Int) < 64 := by omega
          go_wp2_with fail
          have hq : ∀ (W : World) (x : BitVec 32) (n : Nat) (m : Int), m = n → 1 ≤ n → n ≤ 31 → ∀ nq, Calls Tryd.prog 57 #[.int .u32 (wv x), .int .i64 m] (W.drewN nq) fun e w'' => e = .returned (.int .u32 (wv (ror x n))) ∧ ∃ m, w'' = W.drewN m := fun W x n m hm h1 h2 nq => by
            subst hm
            exact (refRot_any x n h1 h2 (W.drewN nq)).mono fun _ _ ⟨he, m, hm⟩ => ⟨he, nq + m, by rw [hm, World.drewN_drewN]⟩
          have Q1 := Lib.hid (fun nq => hq wr (v 4) 6 6 rfl (by omega) (by omega) nq)
          have Q2 := Lib.hid (fun nq => hq wr (v 4) 11 11 rfl (by omega) (by omega) nq)
          have Q3 := Lib.hid (fun nq => hq wr (v 4) 25 25 rfl (by omega) (by omega) nq)
          have HQ := Lib.hid hq
          clear hq
          have x1 := u32_xor (ror (v 4) 6) (ror (v 4) 11)
          have x2 := u32_xor (ror (v 4) 6 ^^^ ror (v 4) 11) (ror (v 4) 25)
          have x3 := u32_addw (v 7) (ror (v 4) 6 ^^^ ror (v 4) 11 ^^^ ror (v 4) 25)
          have x4 := u32_and (v 4) (v 5)
          have x5 : bits BinOp.xor IntKind.u32 (if IntKind.u32.signed = true then -1 else IntKind.u32.max) (wv (v 4)) = wv (~~~ v 4) := u32_not (v 4)
          have x6 := u32_and (~~~ v 4) (v 6)
          have x7 := u32_xor (v 4 &&& v 5) (~~~ v 4 &&& v 6)
          have x8 := u32_addw (v 7 + (ror (v 4) 6 ^^^ ror (v 4) 11 ^^^ ror (v 4) 25)) (v 4 &&& v 5 ^^^ ~~~ v 4 &&& v 6)
          have x9 := u32_addw (v 7 + (ror (v 4) 6 ^^^ ror (v 4) 11 ^^^ ror (v 4) 25) + (v 4 &&& v 5 ^^^ ~~~ v 4 &&& v 6)) kc
          have xa := u32_addw (v 7 + (ror (v 4) 6 ^^^ ror (v 4) 11 ^^^ ror (v 4) 25) + (v 4 &&& v 5 ^^^ ~~~ v 4 &&& v 6) + kc) xw
          go_quiet ((first
            | (go_at_call 57; with_reducible exact Q1.out _)
            | (go_at_call 57; with_reducible exact Q2.out _)
            | (go_at_call 57; with_reducible exact Q3.out _)))
          rw [show v 7 + (ror (v 4) 6 ^^^ ror (v 4) 11 ^^^ ror (v 4) 25) + (v 4 &&& v 5 ^^^ ~~~ v 4 &&& v 6) + kc + xw = T1 (v 4) (v 5) (v 6) (v 7) kc xw from rfl]
          clear x1 x2 x3 x4 x5 x6 x7 x8 x9 xa ck cw Q1 Q2 Q3
          obtain ⟨t1, ht1⟩ : ∃ t, T1 (v 4) (v 5) (v 6) (v 7) kc xw = t := ⟨_, rfl⟩
          rw [ht1]
          have HT1 := Lib.hid ht1
          clear ht1
          have HKz := Lib.hid (And.intro (fun (j : Nat) (hj : j < 64) => (show (wr.drewN nq).cell? ⟨gw, j, none⟩ = _ from HK.out.1 j hj)) (And.intro (HK.out.2.1.drewN nq) (And.intro (HK.out.2.2.1.drewN nq) (And.intro (HK.out.2.2.2.1.drewN nq) (And.intro (HK.out.2.2.2.2.1.drewN nq) (below_drewN HK.out.2.2.2.2.2 nq))))))
          obtain ⟨wz, hwz⟩ : ∃ wz, wr.drewN nq = wz := ⟨_, rfl⟩
          rw [hwz] at HKz
          have d0 : wz.cell? ⟨gv, 0, none⟩ = some (.int .u32 (wv (v 0))) := by rw [← hwz]; exact c0
          have d1 : wz.cell? ⟨gv, 1, none⟩ = some (.int .u32 (wv (v 1))) := by rw [← hwz]; exact c1
          have d2 : wz.cell? ⟨gv, 2, none⟩ = some (.int .u32 (wv (v 2))) := by rw [← hwz]; exact c2
          have d3 : wz.cell? ⟨gv, 3, none⟩ = some (.int .u32 (wv (v 3))) := by rw [← hwz]; exact c3
          have d4 : wz.cell? ⟨gv, 4, none⟩ = some (.int .u32 (wv (v 4))) := by rw [← hwz]; exact c4
          have d5 : wz.cell? ⟨gv, 5, none⟩ = some (.int .u32 (wv (v 5))) := by rw [← hwz]; exact c5
          have d6 : wz.cell? ⟨gv, 6, none⟩ = some (.int .u32 (wv (v 6))) := by rw [← hwz]; exact c6
          rw [hwz]
          clear hwz c0 c1 c2 c3 c4 c5 c6 c7 HK
          have Q1 := Lib.hid (fun nq => HQ.out wz (v 0) 2 2 rfl (by omega) (by omega) nq)
          have Q2 := Lib.hid (fun nq => HQ.out wz (v 0) 13 13 rfl (by omega) (by omega) nq)
          have Q3 := Lib.hid (fun nq => HQ.out wz (v 0) 22 22 rfl (by omega) (by omega) nq)
          have x1 := u32_xor (ror (v 0) 2) (ror (v 0) 13)
          have x2 := u32_xor (ror (v 0) 2 ^^^ ror (v 0) 13) (ror (v 0) 22)
          have x3 := u32_and (v 0) (v 1)
          have x4 := u32_and (v 0) (v 2)
          have x5 := u32_xor (v 0 &&& v 1) (v 0 &&& v 2)
          have x6 := u32_and (v 1) (v 2)
          have x7 := u32_xor (v 0 &&& v 1 ^^^ v 0 &&& v 2) (v 1 &&& v 2)
          have x8 := u32_addw (ror (v 0) 2 ^^^ ror (v 0) 13 ^^^ ror (v 0) 22) (v 0 &&& v 1 ^^^ v 0 &&& v 2 ^^^ v 1 &&& v 2)
          go_wp2_with fail
          go_quiet ((first
            | (go_at_call 57; with_reducible exact Q1.out _)
            | (go_at_call 57; with_reducible exact Q2.out _)
            | (go_at_call 57; with_reducible exact Q3.out _)))
          rw [show (ror (v 0) 2 ^^^ ror (v 0) 13 ^^^ ror (v 0) 22) + (v 0 &&& v 1 ^^^ v 0 &&& v 2 ^^^ v 1 &&& v 2) = T2 (v 0) (v 1) (v 2) from rfl]
          clear x1 x2 x3 x4 x5 x6 x7 x8 Q1 Q2 Q3
          obtain ⟨t2, ht2⟩ : ∃ t, T2 (v 0) (v 1) (v 2) = t := ⟨_, rfl⟩
          rw [ht2]
          have HT2 := Lib.hid ht2
          clear ht2
          have y1 := u32_add t1 t2
          have y2 := u32_add (v 3) t1
          have HKq := Lib.hid (And.intro (fun (j : Nat) (hj : j < 64) => (show (wz.drewN nq).cell? ⟨gw, j, none⟩ = _ from HKz.out.1 j hj)) (And.intro (HKz.out.2.1.drewN nq) (And.intro (HKz.out.2.2.1.drewN nq) (And.intro (HKz.out.2.2.2.1.drewN nq) (And.intro (HKz.out.2.2.2.2.1.drewN nq) (below_drewN HKz.out.2.2.2.2.2 nq))))))
          obtain ⟨v9, hv9⟩ : ∃ x, vstep kF (wsch f) v k = x := ⟨_, rfl⟩
          have hvs := Lib.hid ((vrun_succ kF (wsch f) h k).trans (by rw [HV.out, hv9] : _ = v9))
          have hu := Lib.hid (((congrArg (uarr 8) hv9.symm).trans (uarr8_vstep kF (wsch f) v k)).trans (by rw [HKC.out, HXW.out, HT1.out, HT2.out] : _ = #[.int .u32 (wv (t1 + t2)), .int .u32 (wv (v 0)), .int .u32 (wv (v 1)), .int .u32 (wv (v 2)), .int .u32 (wv (v 3 + t1)), .int .u32 (wv (v 4)), .int .u32 (wv (v 5)), .int .u32 (wv (v 6))]))
          clear hv9
          go_wp2_with ((with_reducible refine at_store 12 153 ?_); rw [← hu.out]; refine wpList_store_arr rfl 78 (.tmp 12) (.tmp 153) rfl rfl gv (uarr 8 v9) rfl rfl 78 _ HKq.out.2.2.2.2.1 (by rw [uarr_size]; kernel_rfl) (by rw [uarr_size, uarr_size]) (uarr_one _ _) ?_; intro w5 o5 b5)
          clear y1 y2 d0 d1 d2 d3 d4 d5 d6
          go_roundw
          case rel =>
            refine ⟨k + 1, by omega, by go_num, Lib.hid ⟨fun j hj => (o5.cell (p := ⟨gw, j, none⟩) (by simp; omega)).trans (HKq.out.1 j hj), o5.blk HKq.out.2.1 (by simp; omega), o5.blk HKq.out.2.2.1 (by simp; omega), o5.blk HKq.out.2.2.2.1 (by simp; omega), ?_, HKq.out.2.2.2.2.2.trans (o5.below (by simp; omega))⟩⟩
            rw [hvs.out]
            exact b5
          case measure => simp [intOf]; omega
        · have hk64 : k = 64 := by omega
          subst hk64
          clear hlt hk
          have HKd := Lib.hid (And.intro HK.out.2.1 (And.intro HK.out.2.2.1 (And.intro HK.out.2.2.2.2.1 HK.out.2.2.2.2.2)))
          clear HK
          go_wp2_with fail
          go_loopw [18] (fun i wq => ∃ k : Nat, k ≤ 8 ∧ i = .int .i64 k ∧ Hid (Blk wq w.heap.size 78 (uarr 8 (fun j => if j < k then h j + v j else h j)) ∧ Blk wq (w.heap.size + 1) 78 (uarr 8 (fun _ => 0)) ∧ Blk wq gv 78 (uarr 8 v) ∧ Below w.heap.size w wq)) (fun i _ => 8 - (intOf i).toNat)
          case atStart =>
            refine ⟨0, by omega, rfl, Lib.hid ⟨?_, HKd.out.2.1, HKd.out.2.2.1, HKd.out.2.2.2⟩⟩
            rw [uarr_congr 8 (fun j => if j < 0 then h j + v j else h j) h (fun i _ => by simp)]
            exact HKd.out.1
          case round =>
            clear HKd
            obtain ⟨k, hk, rfl, HK⟩ := hrel
            by_cases hlt : k < 8
            · have ch : wr.cell? ⟨w.heap.size, k, none⟩ = some (.int .u32 (wv (h k))) := by
                rw [HK.out.1.cell k, uarr_get _ _ _ hlt, if_neg (by omega)]
              have cv : wr.cell? ⟨gv, k, none⟩ = some (.int .u32 (wv (v k))) := by rw [HK.out.2.2.1.cell k, uarr_get _ _ _ hlt]
              have i0 : (0 : Int) ≤ k := by omega
              have i1 : (k : Int) < 8 := by omega
              have x1 := u32_addw (h k) (v k)
              go_wp2_with fail
              refine wp_region_still_tail 9 (by kernel_rfl) (by kernel_rfl) ?_
              simp only [List.take_succ_cons, List.take_zero, List.drop_succ_cons, List.drop_zero]
              repeat still_step
              refine wpStill_nil ?_
              change wpList _ _ _ _ _ wr.drew
              go_wp2_with (refine wpList_store_cell rfl 22 (.tmp 166) (.tmp 165) rfl rfl w.heap.size k (.int .u32 (wv (h k + v k))) rfl rfl rfl 78 _ HK.out.1.drew (by rw [uarr_size]; exact hlt) (by kernel_rfl) ?_; intro w6 o6 b6)
              clear x1 ch cv
              go_roundw
              case rel =>
                have b7 : Blk w6 w.heap.size 78 (uarr 8 (fun j => if j < k + 1 then h j + v j else h j)) := by
                  rw [uarr_set] at b6
                  rw [uarr_congr 8 (fun j => if j < k + 1 then h j + v j else h j) (upd (fun j => if j < k then h j + v j else h j) k (h k + v k)) (fun i _ => ?_)]
                  · exact b6
                  · unfold upd
                    by_cases h1 : i = k
                    · subst h1; simp
                    · rw [if_neg h1]
                      show (if i < k + 1 then h i + v i else h i) = (if i < k then h i + v i else h i)
                      by_cases h2 : i < k
                      · rw [if_pos h2, if_pos (by omega)]
                      · rw [if_neg h2, if_neg (by omega)]
                have P := Lib.hid (And.intro b7 (And.intro (o6.blk HK.out.2.1.drew (by simp)) (And.intro (o6.blk HK.out.2.2.1.drew (by simp; omega)) (HK.out.2.2.2.drew.trans (o6.below (by simp))))))
                first | exact ⟨k + 1, by omega, by go_num, P⟩ | ((repeat apply Exists.intro); exact ⟨⟨k + 1, by omega, by go_num, P⟩, rfl⟩)
              case measure => simp [intOf]; omega
            · have hk8 : k = 8 := by omega
              subst hk8
              clear hlt hk
              have hfin : uarr 8 (fun j => if j < 8 then h j + v j else h j) = uarr 8 (compressF kF f h) := uarr_congr 8 _ _ (fun i hi => by
                show (if i < 8 then h i + v i else h i) = _
                rw [if_pos hi, compress_is kF f h i hi, HV.out])
              have HH := Lib.hid (show Blk wr w.heap.size 78 (uarr 8 (compressF kF f h)) by rw [← hfin]; exact HK.out.1)
              have HR := Lib.hid HK.out.2.1
              have HBz := Lib.hid HK.out.2.2.2
              clear HK hfin
              go_wp2_with (first
                | ((with_reducible refine at_load 2 ?_); refine wpList_load_row rfl 78 (.tmp 2) rfl w.heap.size rfl 78 (uarr 8 (compressF kF f h)) (0, 0) _ HH.out Tryd.underlying78 rfl (by rw [uarr_size]; kernel_rfl) ?_)
                | ((with_reducible refine at_store 4 167 ?_); refine wpList_store_arr rfl 78 (.tmp 4) (.tmp 167) rfl rfl (w.heap.size + 1) (uarr 8 (compressF kF f h)) rfl rfl 78 _ HR.out (by rw [uarr_size]; kernel_rfl) (by rw [uarr_size, uarr_size]) (uarr_one _ _) ?_; intro w7 o7 b7))
              exact bodyPost_ret (results_cell_row rfl _ _ (w.heap.size + 1) 78 _ (0, 0) _ rfl b7 Tryd.underlying78 rfl (by rw [uarr_size]; kernel_rfl)) rfl ⟨rfl, HBz.out.trans (o7.below (by simp))⟩
end Go.Proofs.YtgcopgnkfokphaaDoor
