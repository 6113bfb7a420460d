/- The project's Of. Written by genPG.py. -/
import Derived.Test.YtfmidmhbnpincaaDoorPjF
namespace Go.Proofs.YtfmidmhbnpincaaDoor
open Go.RowKit
structure OuS (w : World) (Z : Array Value) (A : Option Addr) (c N : Nat) (t : TrV) (W : World) : Prop where
  below : Below w.heap.size w W
  l : Blk W w.heap.size 28 #[.slice A N c]
  r : Blk W (w.heap.size + 1) 27 Z
  n : Blk W (w.heap.size + 1 + 1) 22 #[.int .u32 N]
  t : Blk W (w.heap.size + 1 + 1 + 1) 27 t.cells.toArray
theorem OuS.call {w W W' : World} {Z : Array Value} {A : Option Addr} {c N : Nat} {t : TrV} (h : OuS w Z A c N t W) (hb : Below W.heap.size W W') : OuS w Z A c N t W' :=
  ⟨h.below.trans (hb.mono h.below.size), below_blk hb h.l h.l.lt, below_blk hb h.r h.r.lt, below_blk hb h.n h.n.lt, below_blk hb h.t h.t.lt⟩
set_option maxRecDepth 100000 in
set_option maxHeartbeats 2000000 in
theorem pOf_r : OfTOk := by
  intro A c l hn w hl hR
  have HR := Lib.hid hR
  obtain ⟨Z, hZ, hz, hzs, hzn⟩ := zero_of zeroTr_ok zT_size
  have HS := Lib.hid hzs
  have HL := Lib.hid hl
  have HN := Lib.hid hn
  have h32 : l.length < 4294967296 := by omega
  rw [← ofN_all l h32]
  have H32 := Lib.hid h32
  have hcv : IntKind.u64.wrap (l.length : Int) = (l.length : Int) := by rw [IntKind.wrap_u64]; omega
  have hmin : min (l.length : Int) 4294967295 = (l.length : Int) := by omega
  have hc2 : IntKind.u32.wrap (l.length : Int) = (l.length : Int) := by rw [IntKind.wrap_u32']; omega
  have HT := Lib.hid (show Below w.heap.size w (((w.alloc (.cells #[.slice A l.length c] 28)).alloc (.cells Z 27)).alloc (.cells #[.int .u32 l.length] 22)) from (((Below.refl w.heap.size w).alloc (Nat.le_refl _) _).alloc (by simp) _).alloc (by simp <;> omega) _)
  have HL0 := Lib.hid (show Blk (((w.alloc (.cells #[.slice A l.length c] 28)).alloc (.cells Z 27)).alloc (.cells #[.int .u32 l.length] 22)) w.heap.size 28 #[.slice A l.length c] from ((Blk.new w 28 #[.slice A l.length c]).alloc _).alloc _)
  have HR0 := Lib.hid (show Blk (((w.alloc (.cells #[.slice A l.length c] 28)).alloc (.cells Z 27)).alloc (.cells #[.int .u32 l.length] 22)) (w.heap.size + 1) 27 Z from (blk_new (w := w.alloc (.cells #[.slice A l.length c] 28)) (g := w.heap.size + 1) 27 Z (by simp)).alloc _)
  have HU0 := Lib.hid (show Blk (((w.alloc (.cells #[.slice A l.length c] 28)).alloc (.cells Z 27)).alloc (.cells #[.int .u32 l.length] 22)) (w.heap.size + 1 + 1) 22 #[.int .u32 l.length] from blk_new (g := w.heap.size + 1 + 1) 22 _ (by simp))
  clear hZ hzs hl hR hn
  have hmf : ∀ (fn : Fn) (first cap : Array Value) (w : World), (Instr.makeFunc fn first cap).run Tryd.prog w = .ok (.func fn first cap) w := fun _ _ _ _ => rfl
  go_enter Tryd.func19, Tryd.ntmps19
  go_wp2_with (first
    | ((with_reducible refine at_build 13 ?_); refine wpList_built rfl 27 #[(0, .tmp 12)] rfl (ofN l 0 (by omega) H32.out).cells.toArray (by kernel_rfl) ?_)
    | ((with_reducible refine at_store 4 13 ?_); refine tyTr.wpList_store rfl (.tmp 4) (.tmp 13) rfl rfl (w.heap.size + 1 + 1 + 1) (ofN l 0 (by omega) H32.out) rfl rfl 27 Z (blk_new (g := w.heap.size + 1 + 1 + 1) 27 Z (by simp)) (by rw [HS.out]) ?_; intro w2 o2 b2
       have S0 := Lib.hid (show OuS w Z A c l.length (ofN l 0 (by omega) H32.out) w2 from ⟨(HT.out.alloc (by simp <;> omega) _).trans (o2.below (by simp <;> omega)), o2.blk (HL0.out.alloc _) (by simp <;> omega), o2.blk (HR0.out.alloc _) (by simp <;> omega), o2.blk (HU0.out.alloc _) (by simp), b2⟩)
       clear o2 b2))
  clear hz hzn hcv hmin hc2 HT HL0 HR0 HU0 hmf
  go_loopw [15] (fun i wr => ∃ (n : Nat) (hn : n ≤ 32), i = .int .i64 n ∧ Hid (OuS w Z A c l.length (ofN l n hn h32) wr)) (fun i _ => 32 - (intOf i).toNat)
  case atStart => exact ⟨0, by omega, rfl, S0⟩
  case round =>
    clear S0
    obtain ⟨n, hn, rfl, AS⟩ := hrel
    by_cases hlt : n < 32
    · have hd : decide ((n : Int) < 32) = true := by simp; omega
      have hge : (0 : Int) ≤ (n : Int) := by omega
      have hi1 : (n : Int) < 32 := by omega
      have c0 : wr.cell? ⟨w.heap.size + 1 + 1, 0, none⟩ = some (.int .u32 l.length) := AS.out.n.cell 0
      obtain ⟨r, hr⟩ : ∃ r, bitN l.length n = r := ⟨_, rfl⟩
      have HC := Lib.hid (tset_any l.length n h32 hlt r hr wr)
      go_wp2_with fail
      refine HC.out.mono ?_
      rintro e wq ⟨rfl, rfl⟩
      clear HC
      cases hq : r with
      | true =>
        subst hq
        have HP := Lib.hid (part_any A c l n hlt HN.out hr (w.heap.size + 1 + 1) w.heap.size wq AS.out.n AS.out.l ((HL.out.below AS.out.below).more AS.out.below.size) (HR.out.on _ AS.out.below))
        clear hr
        go_wp2_with fail
        refine HP.out.mono ?_
        rintro e x1 ⟨rfl, b1⟩
        have A1 := Lib.hid (AS.out.call b1)
        clear b1 HP c0
        go_wp2_with ((with_reducible refine at_store 26 24 ?_); refine tyKc.wpList_storeAt rfl (.tmp 26) (.tmp 24) rfl rfl (w.heap.size + 1 + 1 + 1) (1 + n * 32) (ptK l n) rfl rfl 27 _ A1.out.t (by rw [TrV.len]; omega) ?_; intro w5 o5 b5; rw [TrV.set_part _ n hlt, ofN_set l n hlt h32] at b5
                     have A5 := Lib.hid (show OuS w Z A c l.length (ofN l (n + 1) (by omega) h32) w5 from ⟨A1.out.below.trans (o5.below (by simp <;> omega)), o5.blk A1.out.l (by simp <;> omega), o5.blk A1.out.r (by simp <;> omega), o5.blk A1.out.n (by simp), b5⟩)
                     clear o5 b5)
        go_roundw
        case rel => exact ⟨n + 1, by omega, by go_num, A5⟩
        case measure => simp [intOf]; omega
      | false =>
        subst hq
        have S1 := Lib.hid (show OuS w Z A c l.length (ofN l (n + 1) (by omega) h32) wq from by rw [← ofN_skip l n hlt h32 hr]; exact AS.out)
        clear hr
        go_wp2_with fail
        go_roundw
        case rel => exact ⟨n + 1, by omega, by go_num, S1⟩
        case measure => simp [intOf]; omega
    · obtain rfl : n = 32 := by omega
      go_wp2_with (first
        | ((with_reducible refine at_load 4 ?_); refine tyTr.wpList_load rfl (.tmp 4) rfl (w.heap.size + 1 + 1 + 1) 0 rfl (ofN l 32 hn h32) (by simpa using RowC.of_blk AS.out.t) ?_)
        | ((with_reducible refine at_store 2 28 ?_); refine tyTr.wpList_store rfl (.tmp 2) (.tmp 28) rfl rfl (w.heap.size + 1) (ofN l 32 hn h32) rfl rfl 27 Z AS.out.r (by rw [HS.out]) ?_; intro w7 o7 b7))
      exact bodyPost_ret (results_cell1 rfl _ _ (w.heap.size + 1) 27 _ (0, 0) _ rfl b7 Tryd.underlying27 rfl (by rw [tyTr.arr]; kernel_rfl)) rfl ⟨rfl, AS.out.below.trans (o7.below (by simp))⟩
end Go.Proofs.YtfmidmhbnpincaaDoor
