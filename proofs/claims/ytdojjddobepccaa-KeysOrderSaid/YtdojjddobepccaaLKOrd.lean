/- KeysOrder and KeysFirst: the statements' walks (made by genOrder.py). -/
import Derived.Test.YtdojjddobepccaaKeyW
namespace Go.Proofs.Ytdojjddobepccaa
open Go.RowKit Go.Sort
theorem less_is {a b : K32} {r : Bool} (h : ltK a b = r) (W : World) : Calls Try.prog 15 #[.agg (bytesA a.1), .agg (bytesA b.1)] W fun e w' => e = .returned (.bool r) ∧ Below W.heap.size W w' :=
  (less_any a b W).mono fun _ _ ⟨h1, h2⟩ => ⟨h ▸ h1, h2.below⟩
theorem eqK_is {x y : K32} {r : Bool} (h : decide (x = y) = r) (V : World) : (Op.equal 23 (.agg (bytesA x.1)) (.agg (bytesA y.1))).run Try.prog V = .ok r V := h ▸ eqK_run x y V
set_option maxHeartbeats 2000000 in
theorem ord1 (a b c : K32) (hx : ltK a b = true) (hy : ltK b a = false) (hz : ltK b c = true) (hu : ltK a c = true) (he : decide (a = b) = false) (w : World) :
    Calls Try.prog 5 #[.agg (bytesA a.1), .agg (bytesA b.1), .agg (bytesA c.1)] w fun e w' => e = .returned (.bool true) ∧ Below w.heap.size w w' := by
  have Lx := Lib.hid (less_is hx)
  have Ly := Lib.hid (less_is hy)
  have Lz := Lib.hid (less_is hz)
  have Lu := Lib.hid (less_is hu)
  have Ls := Lib.hid (less_is (ltK_irrefl a))
  have HE := Lib.hid (eqK_is he)
  clear hx hy hz hu he
  have K3 := Lib.hid (((Blk.new w 23 (bytesA a.1)).alloc (.cells (bytesA b.1) 23)).alloc (.cells (bytesA c.1) 23))
  have K4 := Lib.hid ((blk_new (w := w.alloc (.cells (bytesA a.1) 23)) 23 (bytesA b.1) (g := w.heap.size + 1) (by simp)).alloc (.cells (bytesA c.1) 23))
  have K5 := Lib.hid (blk_new (w := (w.alloc (.cells (bytesA a.1) 23)).alloc (.cells (bytesA b.1) 23)) 23 (bytesA c.1) (g := w.heap.size + 2) (by simp))
  have B0 : Below w.heap.size w (((w.alloc (.cells (bytesA a.1) 23)).alloc (.cells (bytesA b.1) 23)).alloc (.cells (bytesA c.1) 23)) := (((Below.refl _ _).alloc (Nat.le_refl _) _).alloc (by simp) _).alloc (by simp; omega) _
  have HC := Lib.hid (show From (((w.alloc (.cells (bytesA a.1) 23)).alloc (.cells (bytesA b.1) 23)).alloc (.cells (bytesA c.1) 23)) _ from Below.refl _ _)
  have HB0 := Lib.hid B0
  clear B0
  go_enter Try.func5, Try.ntmps5
  go_wp2_with (first
    | ((with_reducible refine at_loadg 3 ?_); refine wpList_load_rowg (by rfl) 23 (.tmp 3) rfl w.heap.size rfl 23 (bytesA a.1) _ (below_blk HC.out.below K3.out K3.out.lt) Try.underlying23 rfl (szK a) ?_)
    | ((with_reducible refine at_loadg 4 ?_); refine wpList_load_rowg (by rfl) 23 (.tmp 4) rfl (w.heap.size + 1) rfl 23 (bytesA b.1) _ (below_blk HC.out.below K4.out K4.out.lt) Try.underlying23 rfl (szK b) ?_)
    | ((with_reducible refine at_loadg 5 ?_); refine wpList_load_rowg (by rfl) 23 (.tmp 5) rfl (w.heap.size + 2) rfl 23 (bytesA c.1) _ (below_blk HC.out.below K5.out K5.out.lt) Try.underlying23 rfl (szK c) ?_)
    | ((with_reducible refine at_neqlg 25 26 ?_); refine wpList_neq_rowg (by rfl) 23 _ (.tmp 25) (.tmp 26) rfl (bytesA a.1) (bytesA b.1) rfl rfl (by kernel_rfl) false HE.out ?_)
    | (go_at_call 15; (first | with_reducible refine (Lx.out _).mono ?_ | with_reducible refine (Ly.out _).mono ?_ | with_reducible refine (Lz.out _).mono ?_ | with_reducible refine (Lu.out _).mono ?_ | with_reducible refine (Ls.out _).mono ?_); rintro e w2 ⟨rfl, g2⟩; replace HC := Lib.hid (HC.out.call g2); clear g2)
    | (go_at_call 10; refine (shown_any _).mono ?_; rintro e w2 ⟨rfl, g2⟩; replace HC := Lib.hid (HC.out.call g2); clear g2))
  go_ret
  exact ⟨rfl, HB0.out.trans (HC.out.below.mono HB0.out.size)⟩
set_option maxHeartbeats 2000000 in
theorem ord2 (a b c : K32) (hx : ltK a b = true) (hy : ltK b a = false) (hz : ltK b c = false) (hu : ltK a c = true) (he : decide (a = b) = false) (w : World) :
    Calls Try.prog 5 #[.agg (bytesA a.1), .agg (bytesA b.1), .agg (bytesA c.1)] w fun e w' => e = .returned (.bool true) ∧ Below w.heap.size w w' := by
  have Lx := Lib.hid (less_is hx)
  have Ly := Lib.hid (less_is hy)
  have Lz := Lib.hid (less_is hz)
  have Lu := Lib.hid (less_is hu)
  have Ls := Lib.hid (less_is (ltK_irrefl a))
  have HE := Lib.hid (eqK_is he)
  clear hx hy hz hu he
  have K3 := Lib.hid (((Blk.new w 23 (bytesA a.1)).alloc (.cells (bytesA b.1) 23)).alloc (.cells (bytesA c.1) 23))
  have K4 := Lib.hid ((blk_new (w := w.alloc (.cells (bytesA a.1) 23)) 23 (bytesA b.1) (g := w.heap.size + 1) (by simp)).alloc (.cells (bytesA c.1) 23))
  have K5 := Lib.hid (blk_new (w := (w.alloc (.cells (bytesA a.1) 23)).alloc (.cells (bytesA b.1) 23)) 23 (bytesA c.1) (g := w.heap.size + 2) (by simp))
  have B0 : Below w.heap.size w (((w.alloc (.cells (bytesA a.1) 23)).alloc (.cells (bytesA b.1) 23)).alloc (.cells (bytesA c.1) 23)) := (((Below.refl _ _).alloc (Nat.le_refl _) _).alloc (by simp) _).alloc (by simp; omega) _
  have HC := Lib.hid (show From (((w.alloc (.cells (bytesA a.1) 23)).alloc (.cells (bytesA b.1) 23)).alloc (.cells (bytesA c.1) 23)) _ from Below.refl _ _)
  have HB0 := Lib.hid B0
  clear B0
  go_enter Try.func5, Try.ntmps5
  go_wp2_with (first
    | ((with_reducible refine at_loadg 3 ?_); refine wpList_load_rowg (by rfl) 23 (.tmp 3) rfl w.heap.size rfl 23 (bytesA a.1) _ (below_blk HC.out.below K3.out K3.out.lt) Try.underlying23 rfl (szK a) ?_)
    | ((with_reducible refine at_loadg 4 ?_); refine wpList_load_rowg (by rfl) 23 (.tmp 4) rfl (w.heap.size + 1) rfl 23 (bytesA b.1) _ (below_blk HC.out.below K4.out K4.out.lt) Try.underlying23 rfl (szK b) ?_)
    | ((with_reducible refine at_loadg 5 ?_); refine wpList_load_rowg (by rfl) 23 (.tmp 5) rfl (w.heap.size + 2) rfl 23 (bytesA c.1) _ (below_blk HC.out.below K5.out K5.out.lt) Try.underlying23 rfl (szK c) ?_)
    | ((with_reducible refine at_neqlg 25 26 ?_); refine wpList_neq_rowg (by rfl) 23 _ (.tmp 25) (.tmp 26) rfl (bytesA a.1) (bytesA b.1) rfl rfl (by kernel_rfl) false HE.out ?_)
    | (go_at_call 15; (first | with_reducible refine (Lx.out _).mono ?_ | with_reducible refine (Ly.out _).mono ?_ | with_reducible refine (Lz.out _).mono ?_ | with_reducible refine (Lu.out _).mono ?_ | with_reducible refine (Ls.out _).mono ?_); rintro e w2 ⟨rfl, g2⟩; replace HC := Lib.hid (HC.out.call g2); clear g2)
    | (go_at_call 10; refine (shown_any _).mono ?_; rintro e w2 ⟨rfl, g2⟩; replace HC := Lib.hid (HC.out.call g2); clear g2))
  go_ret
  exact ⟨rfl, HB0.out.trans (HC.out.below.mono HB0.out.size)⟩
set_option maxHeartbeats 2000000 in
theorem ord2' (a b c : K32) (hx : ltK a b = true) (hy : ltK b a = false) (hz : ltK b c = false) (hu : ltK a c = false) (he : decide (a = b) = false) (w : World) :
    Calls Try.prog 5 #[.agg (bytesA a.1), .agg (bytesA b.1), .agg (bytesA c.1)] w fun e w' => e = .returned (.bool true) ∧ Below w.heap.size w w' := by
  have Lx := Lib.hid (less_is hx)
  have Ly := Lib.hid (less_is hy)
  have Lz := Lib.hid (less_is hz)
  have Lu := Lib.hid (less_is hu)
  have Ls := Lib.hid (less_is (ltK_irrefl a))
  have HE := Lib.hid (eqK_is he)
  clear hx hy hz hu he
  have K3 := Lib.hid (((Blk.new w 23 (bytesA a.1)).alloc (.cells (bytesA b.1) 23)).alloc (.cells (bytesA c.1) 23))
  have K4 := Lib.hid ((blk_new (w := w.alloc (.cells (bytesA a.1) 23)) 23 (bytesA b.1) (g := w.heap.size + 1) (by simp)).alloc (.cells (bytesA c.1) 23))
  have K5 := Lib.hid (blk_new (w := (w.alloc (.cells (bytesA a.1) 23)).alloc (.cells (bytesA b.1) 23)) 23 (bytesA c.1) (g := w.heap.size + 2) (by simp))
  have B0 : Below w.heap.size w (((w.alloc (.cells (bytesA a.1) 23)).alloc (.cells (bytesA b.1) 23)).alloc (.cells (bytesA c.1) 23)) := (((Below.refl _ _).alloc (Nat.le_refl _) _).alloc (by simp) _).alloc (by simp; omega) _
  have HC := Lib.hid (show From (((w.alloc (.cells (bytesA a.1) 23)).alloc (.cells (bytesA b.1) 23)).alloc (.cells (bytesA c.1) 23)) _ from Below.refl _ _)
  have HB0 := Lib.hid B0
  clear B0
  go_enter Try.func5, Try.ntmps5
  go_wp2_with (first
    | ((with_reducible refine at_loadg 3 ?_); refine wpList_load_rowg (by rfl) 23 (.tmp 3) rfl w.heap.size rfl 23 (bytesA a.1) _ (below_blk HC.out.below K3.out K3.out.lt) Try.underlying23 rfl (szK a) ?_)
    | ((with_reducible refine at_loadg 4 ?_); refine wpList_load_rowg (by rfl) 23 (.tmp 4) rfl (w.heap.size + 1) rfl 23 (bytesA b.1) _ (below_blk HC.out.below K4.out K4.out.lt) Try.underlying23 rfl (szK b) ?_)
    | ((with_reducible refine at_loadg 5 ?_); refine wpList_load_rowg (by rfl) 23 (.tmp 5) rfl (w.heap.size + 2) rfl 23 (bytesA c.1) _ (below_blk HC.out.below K5.out K5.out.lt) Try.underlying23 rfl (szK c) ?_)
    | ((with_reducible refine at_neqlg 25 26 ?_); refine wpList_neq_rowg (by rfl) 23 _ (.tmp 25) (.tmp 26) rfl (bytesA a.1) (bytesA b.1) rfl rfl (by kernel_rfl) false HE.out ?_)
    | (go_at_call 15; (first | with_reducible refine (Lx.out _).mono ?_ | with_reducible refine (Ly.out _).mono ?_ | with_reducible refine (Lz.out _).mono ?_ | with_reducible refine (Lu.out _).mono ?_ | with_reducible refine (Ls.out _).mono ?_); rintro e w2 ⟨rfl, g2⟩; replace HC := Lib.hid (HC.out.call g2); clear g2)
    | (go_at_call 10; refine (shown_any _).mono ?_; rintro e w2 ⟨rfl, g2⟩; replace HC := Lib.hid (HC.out.call g2); clear g2))
  go_ret
  exact ⟨rfl, HB0.out.trans (HC.out.below.mono HB0.out.size)⟩
set_option maxHeartbeats 2000000 in
theorem ord3 (a b c : K32) (hx : ltK a b = false) (hy : ltK b a = true) (hz : ltK b c = true) (hu : ltK a c = true) (he : decide (a = b) = false) (w : World) :
    Calls Try.prog 5 #[.agg (bytesA a.1), .agg (bytesA b.1), .agg (bytesA c.1)] w fun e w' => e = .returned (.bool true) ∧ Below w.heap.size w w' := by
  have Lx := Lib.hid (less_is hx)
  have Ly := Lib.hid (less_is hy)
  have Lz := Lib.hid (less_is hz)
  have Lu := Lib.hid (less_is hu)
  have Ls := Lib.hid (less_is (ltK_irrefl a))
  have HE := Lib.hid (eqK_is he)
  clear hx hy hz hu he
  have K3 := Lib.hid (((Blk.new w 23 (bytesA a.1)).alloc (.cells (bytesA b.1) 23)).alloc (.cells (bytesA c.1) 23))
  have K4 := Lib.hid ((blk_new (w := w.alloc (.cells (bytesA a.1) 23)) 23 (bytesA b.1) (g := w.heap.size + 1) (by simp)).alloc (.cells (bytesA c.1) 23))
  have K5 := Lib.hid (blk_new (w := (w.alloc (.cells (bytesA a.1) 23)).alloc (.cells (bytesA b.1) 23)) 23 (bytesA c.1) (g := w.heap.size + 2) (by simp))
  have B0 : Below w.heap.size w (((w.alloc (.cells (bytesA a.1) 23)).alloc (.cells (bytesA b.1) 23)).alloc (.cells (bytesA c.1) 23)) := (((Below.refl _ _).alloc (Nat.le_refl _) _).alloc (by simp) _).alloc (by simp; omega) _
  have HC := Lib.hid (show From (((w.alloc (.cells (bytesA a.1) 23)).alloc (.cells (bytesA b.1) 23)).alloc (.cells (bytesA c.1) 23)) _ from Below.refl _ _)
  have HB0 := Lib.hid B0
  clear B0
  go_enter Try.func5, Try.ntmps5
  go_wp2_with (first
    | ((with_reducible refine at_loadg 3 ?_); refine wpList_load_rowg (by rfl) 23 (.tmp 3) rfl w.heap.size rfl 23 (bytesA a.1) _ (below_blk HC.out.below K3.out K3.out.lt) Try.underlying23 rfl (szK a) ?_)
    | ((with_reducible refine at_loadg 4 ?_); refine wpList_load_rowg (by rfl) 23 (.tmp 4) rfl (w.heap.size + 1) rfl 23 (bytesA b.1) _ (below_blk HC.out.below K4.out K4.out.lt) Try.underlying23 rfl (szK b) ?_)
    | ((with_reducible refine at_loadg 5 ?_); refine wpList_load_rowg (by rfl) 23 (.tmp 5) rfl (w.heap.size + 2) rfl 23 (bytesA c.1) _ (below_blk HC.out.below K5.out K5.out.lt) Try.underlying23 rfl (szK c) ?_)
    | ((with_reducible refine at_neqlg 25 26 ?_); refine wpList_neq_rowg (by rfl) 23 _ (.tmp 25) (.tmp 26) rfl (bytesA a.1) (bytesA b.1) rfl rfl (by kernel_rfl) false HE.out ?_)
    | (go_at_call 15; (first | with_reducible refine (Lx.out _).mono ?_ | with_reducible refine (Ly.out _).mono ?_ | with_reducible refine (Lz.out _).mono ?_ | with_reducible refine (Lu.out _).mono ?_ | with_reducible refine (Ls.out _).mono ?_); rintro e w2 ⟨rfl, g2⟩; replace HC := Lib.hid (HC.out.call g2); clear g2)
    | (go_at_call 10; refine (shown_any _).mono ?_; rintro e w2 ⟨rfl, g2⟩; replace HC := Lib.hid (HC.out.call g2); clear g2))
  go_ret
  exact ⟨rfl, HB0.out.trans (HC.out.below.mono HB0.out.size)⟩
set_option maxHeartbeats 2000000 in
theorem ord3a (a b c : K32) (hx : ltK a b = false) (hy : ltK b a = true) (hz : ltK b c = false) (hu : ltK a c = false) (he : decide (a = b) = false) (w : World) :
    Calls Try.prog 5 #[.agg (bytesA a.1), .agg (bytesA b.1), .agg (bytesA c.1)] w fun e w' => e = .returned (.bool true) ∧ Below w.heap.size w w' := by
  have Lx := Lib.hid (less_is hx)
  have Ly := Lib.hid (less_is hy)
  have Lz := Lib.hid (less_is hz)
  have Lu := Lib.hid (less_is hu)
  have Ls := Lib.hid (less_is (ltK_irrefl a))
  have HE := Lib.hid (eqK_is he)
  clear hx hy hz hu he
  have K3 := Lib.hid (((Blk.new w 23 (bytesA a.1)).alloc (.cells (bytesA b.1) 23)).alloc (.cells (bytesA c.1) 23))
  have K4 := Lib.hid ((blk_new (w := w.alloc (.cells (bytesA a.1) 23)) 23 (bytesA b.1) (g := w.heap.size + 1) (by simp)).alloc (.cells (bytesA c.1) 23))
  have K5 := Lib.hid (blk_new (w := (w.alloc (.cells (bytesA a.1) 23)).alloc (.cells (bytesA b.1) 23)) 23 (bytesA c.1) (g := w.heap.size + 2) (by simp))
  have B0 : Below w.heap.size w (((w.alloc (.cells (bytesA a.1) 23)).alloc (.cells (bytesA b.1) 23)).alloc (.cells (bytesA c.1) 23)) := (((Below.refl _ _).alloc (Nat.le_refl _) _).alloc (by simp) _).alloc (by simp; omega) _
  have HC := Lib.hid (show From (((w.alloc (.cells (bytesA a.1) 23)).alloc (.cells (bytesA b.1) 23)).alloc (.cells (bytesA c.1) 23)) _ from Below.refl _ _)
  have HB0 := Lib.hid B0
  clear B0
  go_enter Try.func5, Try.ntmps5
  go_wp2_with (first
    | ((with_reducible refine at_loadg 3 ?_); refine wpList_load_rowg (by rfl) 23 (.tmp 3) rfl w.heap.size rfl 23 (bytesA a.1) _ (below_blk HC.out.below K3.out K3.out.lt) Try.underlying23 rfl (szK a) ?_)
    | ((with_reducible refine at_loadg 4 ?_); refine wpList_load_rowg (by rfl) 23 (.tmp 4) rfl (w.heap.size + 1) rfl 23 (bytesA b.1) _ (below_blk HC.out.below K4.out K4.out.lt) Try.underlying23 rfl (szK b) ?_)
    | ((with_reducible refine at_loadg 5 ?_); refine wpList_load_rowg (by rfl) 23 (.tmp 5) rfl (w.heap.size + 2) rfl 23 (bytesA c.1) _ (below_blk HC.out.below K5.out K5.out.lt) Try.underlying23 rfl (szK c) ?_)
    | ((with_reducible refine at_neqlg 25 26 ?_); refine wpList_neq_rowg (by rfl) 23 _ (.tmp 25) (.tmp 26) rfl (bytesA a.1) (bytesA b.1) rfl rfl (by kernel_rfl) false HE.out ?_)
    | (go_at_call 15; (first | with_reducible refine (Lx.out _).mono ?_ | with_reducible refine (Ly.out _).mono ?_ | with_reducible refine (Lz.out _).mono ?_ | with_reducible refine (Lu.out _).mono ?_ | with_reducible refine (Ls.out _).mono ?_); rintro e w2 ⟨rfl, g2⟩; replace HC := Lib.hid (HC.out.call g2); clear g2)
    | (go_at_call 10; refine (shown_any _).mono ?_; rintro e w2 ⟨rfl, g2⟩; replace HC := Lib.hid (HC.out.call g2); clear g2))
  go_ret
  exact ⟨rfl, HB0.out.trans (HC.out.below.mono HB0.out.size)⟩
set_option maxHeartbeats 2000000 in
theorem ord3b (a b c : K32) (hx : ltK a b = false) (hy : ltK b a = true) (hz : ltK b c = false) (hu : ltK a c = true) (he : decide (a = b) = false) (w : World) :
    Calls Try.prog 5 #[.agg (bytesA a.1), .agg (bytesA b.1), .agg (bytesA c.1)] w fun e w' => e = .returned (.bool true) ∧ Below w.heap.size w w' := by
  have Lx := Lib.hid (less_is hx)
  have Ly := Lib.hid (less_is hy)
  have Lz := Lib.hid (less_is hz)
  have Lu := Lib.hid (less_is hu)
  have Ls := Lib.hid (less_is (ltK_irrefl a))
  have HE := Lib.hid (eqK_is he)
  clear hx hy hz hu he
  have K3 := Lib.hid (((Blk.new w 23 (bytesA a.1)).alloc (.cells (bytesA b.1) 23)).alloc (.cells (bytesA c.1) 23))
  have K4 := Lib.hid ((blk_new (w := w.alloc (.cells (bytesA a.1) 23)) 23 (bytesA b.1) (g := w.heap.size + 1) (by simp)).alloc (.cells (bytesA c.1) 23))
  have K5 := Lib.hid (blk_new (w := (w.alloc (.cells (bytesA a.1) 23)).alloc (.cells (bytesA b.1) 23)) 23 (bytesA c.1) (g := w.heap.size + 2) (by simp))
  have B0 : Below w.heap.size w (((w.alloc (.cells (bytesA a.1) 23)).alloc (.cells (bytesA b.1) 23)).alloc (.cells (bytesA c.1) 23)) := (((Below.refl _ _).alloc (Nat.le_refl _) _).alloc (by simp) _).alloc (by simp; omega) _
  have HC := Lib.hid (show From (((w.alloc (.cells (bytesA a.1) 23)).alloc (.cells (bytesA b.1) 23)).alloc (.cells (bytesA c.1) 23)) _ from Below.refl _ _)
  have HB0 := Lib.hid B0
  clear B0
  go_enter Try.func5, Try.ntmps5
  go_wp2_with (first
    | ((with_reducible refine at_loadg 3 ?_); refine wpList_load_rowg (by rfl) 23 (.tmp 3) rfl w.heap.size rfl 23 (bytesA a.1) _ (below_blk HC.out.below K3.out K3.out.lt) Try.underlying23 rfl (szK a) ?_)
    | ((with_reducible refine at_loadg 4 ?_); refine wpList_load_rowg (by rfl) 23 (.tmp 4) rfl (w.heap.size + 1) rfl 23 (bytesA b.1) _ (below_blk HC.out.below K4.out K4.out.lt) Try.underlying23 rfl (szK b) ?_)
    | ((with_reducible refine at_loadg 5 ?_); refine wpList_load_rowg (by rfl) 23 (.tmp 5) rfl (w.heap.size + 2) rfl 23 (bytesA c.1) _ (below_blk HC.out.below K5.out K5.out.lt) Try.underlying23 rfl (szK c) ?_)
    | ((with_reducible refine at_neqlg 25 26 ?_); refine wpList_neq_rowg (by rfl) 23 _ (.tmp 25) (.tmp 26) rfl (bytesA a.1) (bytesA b.1) rfl rfl (by kernel_rfl) false HE.out ?_)
    | (go_at_call 15; (first | with_reducible refine (Lx.out _).mono ?_ | with_reducible refine (Ly.out _).mono ?_ | with_reducible refine (Lz.out _).mono ?_ | with_reducible refine (Lu.out _).mono ?_ | with_reducible refine (Ls.out _).mono ?_); rintro e w2 ⟨rfl, g2⟩; replace HC := Lib.hid (HC.out.call g2); clear g2)
    | (go_at_call 10; refine (shown_any _).mono ?_; rintro e w2 ⟨rfl, g2⟩; replace HC := Lib.hid (HC.out.call g2); clear g2))
  go_ret
  exact ⟨rfl, HB0.out.trans (HC.out.below.mono HB0.out.size)⟩
set_option maxHeartbeats 2000000 in
theorem ord3c (a b c : K32) (hx : ltK a b = false) (hy : ltK b a = true) (hz : ltK b c = true) (hu : ltK a c = false) (he : decide (a = b) = false) (w : World) :
    Calls Try.prog 5 #[.agg (bytesA a.1), .agg (bytesA b.1), .agg (bytesA c.1)] w fun e w' => e = .returned (.bool true) ∧ Below w.heap.size w w' := by
  have Lx := Lib.hid (less_is hx)
  have Ly := Lib.hid (less_is hy)
  have Lz := Lib.hid (less_is hz)
  have Lu := Lib.hid (less_is hu)
  have Ls := Lib.hid (less_is (ltK_irrefl a))
  have HE := Lib.hid (eqK_is he)
  clear hx hy hz hu he
  have K3 := Lib.hid (((Blk.new w 23 (bytesA a.1)).alloc (.cells (bytesA b.1) 23)).alloc (.cells (bytesA c.1) 23))
  have K4 := Lib.hid ((blk_new (w := w.alloc (.cells (bytesA a.1) 23)) 23 (bytesA b.1) (g := w.heap.size + 1) (by simp)).alloc (.cells (bytesA c.1) 23))
  have K5 := Lib.hid (blk_new (w := (w.alloc (.cells (bytesA a.1) 23)).alloc (.cells (bytesA b.1) 23)) 23 (bytesA c.1) (g := w.heap.size + 2) (by simp))
  have B0 : Below w.heap.size w (((w.alloc (.cells (bytesA a.1) 23)).alloc (.cells (bytesA b.1) 23)).alloc (.cells (bytesA c.1) 23)) := (((Below.refl _ _).alloc (Nat.le_refl _) _).alloc (by simp) _).alloc (by simp; omega) _
  have HC := Lib.hid (show From (((w.alloc (.cells (bytesA a.1) 23)).alloc (.cells (bytesA b.1) 23)).alloc (.cells (bytesA c.1) 23)) _ from Below.refl _ _)
  have HB0 := Lib.hid B0
  clear B0
  go_enter Try.func5, Try.ntmps5
  go_wp2_with (first
    | ((with_reducible refine at_loadg 3 ?_); refine wpList_load_rowg (by rfl) 23 (.tmp 3) rfl w.heap.size rfl 23 (bytesA a.1) _ (below_blk HC.out.below K3.out K3.out.lt) Try.underlying23 rfl (szK a) ?_)
    | ((with_reducible refine at_loadg 4 ?_); refine wpList_load_rowg (by rfl) 23 (.tmp 4) rfl (w.heap.size + 1) rfl 23 (bytesA b.1) _ (below_blk HC.out.below K4.out K4.out.lt) Try.underlying23 rfl (szK b) ?_)
    | ((with_reducible refine at_loadg 5 ?_); refine wpList_load_rowg (by rfl) 23 (.tmp 5) rfl (w.heap.size + 2) rfl 23 (bytesA c.1) _ (below_blk HC.out.below K5.out K5.out.lt) Try.underlying23 rfl (szK c) ?_)
    | ((with_reducible refine at_neqlg 25 26 ?_); refine wpList_neq_rowg (by rfl) 23 _ (.tmp 25) (.tmp 26) rfl (bytesA a.1) (bytesA b.1) rfl rfl (by kernel_rfl) false HE.out ?_)
    | (go_at_call 15; (first | with_reducible refine (Lx.out _).mono ?_ | with_reducible refine (Ly.out _).mono ?_ | with_reducible refine (Lz.out _).mono ?_ | with_reducible refine (Lu.out _).mono ?_ | with_reducible refine (Ls.out _).mono ?_); rintro e w2 ⟨rfl, g2⟩; replace HC := Lib.hid (HC.out.call g2); clear g2)
    | (go_at_call 10; refine (shown_any _).mono ?_; rintro e w2 ⟨rfl, g2⟩; replace HC := Lib.hid (HC.out.call g2); clear g2))
  go_ret
  exact ⟨rfl, HB0.out.trans (HC.out.below.mono HB0.out.size)⟩
set_option maxHeartbeats 2000000 in
theorem ord4 (a b c : K32) (hx : ltK a b = false) (hy : ltK b a = false) (hz : ltK b c = true) (hu : ltK a c = true) (he : decide (a = b) = true) (w : World) :
    Calls Try.prog 5 #[.agg (bytesA a.1), .agg (bytesA b.1), .agg (bytesA c.1)] w fun e w' => e = .returned (.bool true) ∧ Below w.heap.size w w' := by
  have Lx := Lib.hid (less_is hx)
  have Ly := Lib.hid (less_is hy)
  have Lz := Lib.hid (less_is hz)
  have Lu := Lib.hid (less_is hu)
  have Ls := Lib.hid (less_is (ltK_irrefl a))
  have HE := Lib.hid (eqK_is he)
  clear hx hy hz hu he
  have K3 := Lib.hid (((Blk.new w 23 (bytesA a.1)).alloc (.cells (bytesA b.1) 23)).alloc (.cells (bytesA c.1) 23))
  have K4 := Lib.hid ((blk_new (w := w.alloc (.cells (bytesA a.1) 23)) 23 (bytesA b.1) (g := w.heap.size + 1) (by simp)).alloc (.cells (bytesA c.1) 23))
  have K5 := Lib.hid (blk_new (w := (w.alloc (.cells (bytesA a.1) 23)).alloc (.cells (bytesA b.1) 23)) 23 (bytesA c.1) (g := w.heap.size + 2) (by simp))
  have B0 : Below w.heap.size w (((w.alloc (.cells (bytesA a.1) 23)).alloc (.cells (bytesA b.1) 23)).alloc (.cells (bytesA c.1) 23)) := (((Below.refl _ _).alloc (Nat.le_refl _) _).alloc (by simp) _).alloc (by simp; omega) _
  have HC := Lib.hid (show From (((w.alloc (.cells (bytesA a.1) 23)).alloc (.cells (bytesA b.1) 23)).alloc (.cells (bytesA c.1) 23)) _ from Below.refl _ _)
  have HB0 := Lib.hid B0
  clear B0
  go_enter Try.func5, Try.ntmps5
  go_wp2_with (first
    | ((with_reducible refine at_loadg 3 ?_); refine wpList_load_rowg (by rfl) 23 (.tmp 3) rfl w.heap.size rfl 23 (bytesA a.1) _ (below_blk HC.out.below K3.out K3.out.lt) Try.underlying23 rfl (szK a) ?_)
    | ((with_reducible refine at_loadg 4 ?_); refine wpList_load_rowg (by rfl) 23 (.tmp 4) rfl (w.heap.size + 1) rfl 23 (bytesA b.1) _ (below_blk HC.out.below K4.out K4.out.lt) Try.underlying23 rfl (szK b) ?_)
    | ((with_reducible refine at_loadg 5 ?_); refine wpList_load_rowg (by rfl) 23 (.tmp 5) rfl (w.heap.size + 2) rfl 23 (bytesA c.1) _ (below_blk HC.out.below K5.out K5.out.lt) Try.underlying23 rfl (szK c) ?_)
    | ((with_reducible refine at_neqlg 25 26 ?_); refine wpList_neq_rowg (by rfl) 23 _ (.tmp 25) (.tmp 26) rfl (bytesA a.1) (bytesA b.1) rfl rfl (by kernel_rfl) true HE.out ?_)
    | (go_at_call 15; (first | with_reducible refine (Lx.out _).mono ?_ | with_reducible refine (Ly.out _).mono ?_ | with_reducible refine (Lz.out _).mono ?_ | with_reducible refine (Lu.out _).mono ?_ | with_reducible refine (Ls.out _).mono ?_); rintro e w2 ⟨rfl, g2⟩; replace HC := Lib.hid (HC.out.call g2); clear g2)
    | (go_at_call 10; refine (shown_any _).mono ?_; rintro e w2 ⟨rfl, g2⟩; replace HC := Lib.hid (HC.out.call g2); clear g2))
  go_ret
  exact ⟨rfl, HB0.out.trans (HC.out.below.mono HB0.out.size)⟩
set_option maxHeartbeats 2000000 in
theorem ord4a (a b c : K32) (hx : ltK a b = false) (hy : ltK b a = false) (hz : ltK b c = false) (hu : ltK a c = false) (he : decide (a = b) = true) (w : World) :
    Calls Try.prog 5 #[.agg (bytesA a.1), .agg (bytesA b.1), .agg (bytesA c.1)] w fun e w' => e = .returned (.bool true) ∧ Below w.heap.size w w' := by
  have Lx := Lib.hid (less_is hx)
  have Ly := Lib.hid (less_is hy)
  have Lz := Lib.hid (less_is hz)
  have Lu := Lib.hid (less_is hu)
  have Ls := Lib.hid (less_is (ltK_irrefl a))
  have HE := Lib.hid (eqK_is he)
  clear hx hy hz hu he
  have K3 := Lib.hid (((Blk.new w 23 (bytesA a.1)).alloc (.cells (bytesA b.1) 23)).alloc (.cells (bytesA c.1) 23))
  have K4 := Lib.hid ((blk_new (w := w.alloc (.cells (bytesA a.1) 23)) 23 (bytesA b.1) (g := w.heap.size + 1) (by simp)).alloc (.cells (bytesA c.1) 23))
  have K5 := Lib.hid (blk_new (w := (w.alloc (.cells (bytesA a.1) 23)).alloc (.cells (bytesA b.1) 23)) 23 (bytesA c.1) (g := w.heap.size + 2) (by simp))
  have B0 : Below w.heap.size w (((w.alloc (.cells (bytesA a.1) 23)).alloc (.cells (bytesA b.1) 23)).alloc (.cells (bytesA c.1) 23)) := (((Below.refl _ _).alloc (Nat.le_refl _) _).alloc (by simp) _).alloc (by simp; omega) _
  have HC := Lib.hid (show From (((w.alloc (.cells (bytesA a.1) 23)).alloc (.cells (bytesA b.1) 23)).alloc (.cells (bytesA c.1) 23)) _ from Below.refl _ _)
  have HB0 := Lib.hid B0
  clear B0
  go_enter Try.func5, Try.ntmps5
  go_wp2_with (first
    | ((with_reducible refine at_loadg 3 ?_); refine wpList_load_rowg (by rfl) 23 (.tmp 3) rfl w.heap.size rfl 23 (bytesA a.1) _ (below_blk HC.out.below K3.out K3.out.lt) Try.underlying23 rfl (szK a) ?_)
    | ((with_reducible refine at_loadg 4 ?_); refine wpList_load_rowg (by rfl) 23 (.tmp 4) rfl (w.heap.size + 1) rfl 23 (bytesA b.1) _ (below_blk HC.out.below K4.out K4.out.lt) Try.underlying23 rfl (szK b) ?_)
    | ((with_reducible refine at_loadg 5 ?_); refine wpList_load_rowg (by rfl) 23 (.tmp 5) rfl (w.heap.size + 2) rfl 23 (bytesA c.1) _ (below_blk HC.out.below K5.out K5.out.lt) Try.underlying23 rfl (szK c) ?_)
    | ((with_reducible refine at_neqlg 25 26 ?_); refine wpList_neq_rowg (by rfl) 23 _ (.tmp 25) (.tmp 26) rfl (bytesA a.1) (bytesA b.1) rfl rfl (by kernel_rfl) true HE.out ?_)
    | (go_at_call 15; (first | with_reducible refine (Lx.out _).mono ?_ | with_reducible refine (Ly.out _).mono ?_ | with_reducible refine (Lz.out _).mono ?_ | with_reducible refine (Lu.out _).mono ?_ | with_reducible refine (Ls.out _).mono ?_); rintro e w2 ⟨rfl, g2⟩; replace HC := Lib.hid (HC.out.call g2); clear g2)
    | (go_at_call 10; refine (shown_any _).mono ?_; rintro e w2 ⟨rfl, g2⟩; replace HC := Lib.hid (HC.out.call g2); clear g2))
  go_ret
  exact ⟨rfl, HB0.out.trans (HC.out.below.mono HB0.out.size)⟩
set_option maxHeartbeats 2000000 in
theorem first1 (a b a' b' : K32) (x y : Int) (hA : (bytesA a.1).setIfInBounds 0 (.int .u8 x) = bytesA a'.1) (hB : (bytesA b.1).setIfInBounds 0 (.int .u8 y) = bytesA b'.1) (hx : ltK a' b' = true) (hy : ltK b' a' = false) (he : decide (a' = b') = false) (hne : x ≠ y) (hlt : decide (x < y) = true) (w : World) :
    Calls Try.prog 9 #[.agg (bytesA a.1), .agg (bytesA b.1), .int .u8 x, .int .u8 y] w fun e w' => e = .returned (.bool true) ∧ Below w.heap.size w w' := by
  have Lx := Lib.hid (less_is hx)
  have Ly := Lib.hid (less_is hy)
  have HE := Lib.hid (eqK_is he)
  have HA := Lib.hid hA
  have HB := Lib.hid hB
  clear hx hy he hA hB
  have d1 : (x == y) = false := beq_eq_false_iff_ne.mpr hne
  have d2 : (x != y) = true := by rw [bne, d1]; rfl
  have d3 : decide (x < y) = true := hlt
  clear hlt
  have K4 := Lib.hid ((Blk.new w 23 (bytesA a.1)).alloc (.cells (bytesA b.1) 23))
  have K5 := Lib.hid (blk_new (w := w.alloc (.cells (bytesA a.1) 23)) 23 (bytesA b.1) (g := w.heap.size + 1) (by simp))
  have HB0 := Lib.hid (show Below w.heap.size w ((w.alloc (.cells (bytesA a.1) 23)).alloc (.cells (bytesA b.1) 23)) from ((Below.refl _ _).alloc (Nat.le_refl _) _).alloc (by simp) _)
  go_enter Try.func9, Try.ntmps9
  go_wp2_with (first
    | ((with_reducible refine at_store 10 9 ?_); refine wpList_store_cell rfl 5 (.tmp 10) (.tmp 9) rfl rfl w.heap.size 0 (.int .u8 x) rfl rfl rfl 23 _ K4.out (by rw [bytesA_size, a.2]; omega) (by kernel_rfl) ?_; intro w3 o3 b3; rw [HA.out] at b3; replace K4 := Lib.hid b3; replace K5 := Lib.hid (o3.blk K5.out (by simp)); replace HB0 := Lib.hid (HB0.out.trans (o3.below (by simp))); clear o3 b3)
    | ((with_reducible refine at_store 12 11 ?_); refine wpList_store_cell rfl 5 (.tmp 12) (.tmp 11) rfl rfl (w.heap.size + 1) 0 (.int .u8 y) rfl rfl rfl 23 _ K5.out (by rw [bytesA_size, b.2]; omega) (by kernel_rfl) ?_; intro w4 o4 b4; rw [HB.out] at b4; replace K5 := Lib.hid b4; replace K4 := Lib.hid (o4.blk K4.out (by simp)); replace HB0 := Lib.hid (HB0.out.trans (o4.below (by simp))); clear o4 b4))
  refine wp_region_from (by kernel_rfl) (by kernel_rfl) ?_
  repeat (first
    | go_big_quiet_skip
    | ((with_reducible refine at_qload 4 ?_); refine wpQuiet_load_row (by rfl) 23 (.tmp 4) rfl w.heap.size rfl 23 (bytesA a'.1) _ (fun _ hC => below_blk hC.below K4.out K4.out.lt) Try.underlying23 rfl (szK a') ?_; simp only [Act.put, List.setIfInBounds_toArray, List.set_cons_succ, List.set_cons_zero])
    | ((with_reducible refine at_qload 5 ?_); refine wpQuiet_load_row (by rfl) 23 (.tmp 5) rfl (w.heap.size + 1) rfl 23 (bytesA b'.1) _ (fun _ hC => below_blk hC.below K5.out K5.out.lt) Try.underlying23 rfl (szK b') ?_; simp only [Act.put, List.setIfInBounds_toArray, List.set_cons_succ, List.set_cons_zero])
    | ((with_reducible refine at_qeql 39 40 ?_); refine wpQuiet_eql_row (by rfl) 23 _ (.tmp 39) (.tmp 40) rfl (bytesA a'.1) (bytesA b'.1) rfl rfl (by kernel_rfl) false HE.out ?_; simp only [Act.put, List.setIfInBounds_toArray, List.set_cons_succ, List.set_cons_zero])
    | (go_big_quiet_want; go_big_quiet_op; refine ⟨_, fun _ _ => by with_reducible rfl, ?_⟩; go_big_quiet_on)
    | go_big_quiet_step ((intro hC; first
        | (go_at_call 15; with_reducible exact (Lx.out _).mono fun _ _ h => ⟨h.1, hC.call h.2⟩)
        | (go_at_call 15; with_reducible exact (Ly.out _).mono fun _ _ h => ⟨h.1, hC.call h.2⟩)
        | (go_at_call 10; with_reducible exact (shown_any _).mono fun _ _ h => ⟨h.1, hC.call h.2⟩))))
  refine wpQuiet_nil ?_
  intro w9 hC
  go_wp2_with fail
  go_ret
  exact ⟨rfl, HB0.out.trans (hC.below.mono HB0.out.size)⟩
set_option maxHeartbeats 2000000 in
theorem first2 (a b a' b' : K32) (x y : Int) (hA : (bytesA a.1).setIfInBounds 0 (.int .u8 x) = bytesA a'.1) (hB : (bytesA b.1).setIfInBounds 0 (.int .u8 y) = bytesA b'.1) (hx : ltK a' b' = false) (hy : ltK b' a' = true) (he : decide (a' = b') = false) (hne : x ≠ y) (hlt : decide (x < y) = false) (w : World) :
    Calls Try.prog 9 #[.agg (bytesA a.1), .agg (bytesA b.1), .int .u8 x, .int .u8 y] w fun e w' => e = .returned (.bool true) ∧ Below w.heap.size w w' := by
  have Lx := Lib.hid (less_is hx)
  have Ly := Lib.hid (less_is hy)
  have HE := Lib.hid (eqK_is he)
  have HA := Lib.hid hA
  have HB := Lib.hid hB
  clear hx hy he hA hB
  have d1 : (x == y) = false := beq_eq_false_iff_ne.mpr hne
  have d2 : (x != y) = true := by rw [bne, d1]; rfl
  have d3 : decide (x < y) = false := hlt
  clear hlt
  have K4 := Lib.hid ((Blk.new w 23 (bytesA a.1)).alloc (.cells (bytesA b.1) 23))
  have K5 := Lib.hid (blk_new (w := w.alloc (.cells (bytesA a.1) 23)) 23 (bytesA b.1) (g := w.heap.size + 1) (by simp))
  have HB0 := Lib.hid (show Below w.heap.size w ((w.alloc (.cells (bytesA a.1) 23)).alloc (.cells (bytesA b.1) 23)) from ((Below.refl _ _).alloc (Nat.le_refl _) _).alloc (by simp) _)
  go_enter Try.func9, Try.ntmps9
  go_wp2_with (first
    | ((with_reducible refine at_store 10 9 ?_); refine wpList_store_cell rfl 5 (.tmp 10) (.tmp 9) rfl rfl w.heap.size 0 (.int .u8 x) rfl rfl rfl 23 _ K4.out (by rw [bytesA_size, a.2]; omega) (by kernel_rfl) ?_; intro w3 o3 b3; rw [HA.out] at b3; replace K4 := Lib.hid b3; replace K5 := Lib.hid (o3.blk K5.out (by simp)); replace HB0 := Lib.hid (HB0.out.trans (o3.below (by simp))); clear o3 b3)
    | ((with_reducible refine at_store 12 11 ?_); refine wpList_store_cell rfl 5 (.tmp 12) (.tmp 11) rfl rfl (w.heap.size + 1) 0 (.int .u8 y) rfl rfl rfl 23 _ K5.out (by rw [bytesA_size, b.2]; omega) (by kernel_rfl) ?_; intro w4 o4 b4; rw [HB.out] at b4; replace K5 := Lib.hid b4; replace K4 := Lib.hid (o4.blk K4.out (by simp)); replace HB0 := Lib.hid (HB0.out.trans (o4.below (by simp))); clear o4 b4))
  refine wp_region_from (by kernel_rfl) (by kernel_rfl) ?_
  repeat (first
    | go_big_quiet_skip
    | ((with_reducible refine at_qload 4 ?_); refine wpQuiet_load_row (by rfl) 23 (.tmp 4) rfl w.heap.size rfl 23 (bytesA a'.1) _ (fun _ hC => below_blk hC.below K4.out K4.out.lt) Try.underlying23 rfl (szK a') ?_; simp only [Act.put, List.setIfInBounds_toArray, List.set_cons_succ, List.set_cons_zero])
    | ((with_reducible refine at_qload 5 ?_); refine wpQuiet_load_row (by rfl) 23 (.tmp 5) rfl (w.heap.size + 1) rfl 23 (bytesA b'.1) _ (fun _ hC => below_blk hC.below K5.out K5.out.lt) Try.underlying23 rfl (szK b') ?_; simp only [Act.put, List.setIfInBounds_toArray, List.set_cons_succ, List.set_cons_zero])
    | ((with_reducible refine at_qeql 39 40 ?_); refine wpQuiet_eql_row (by rfl) 23 _ (.tmp 39) (.tmp 40) rfl (bytesA a'.1) (bytesA b'.1) rfl rfl (by kernel_rfl) false HE.out ?_; simp only [Act.put, List.setIfInBounds_toArray, List.set_cons_succ, List.set_cons_zero])
    | (go_big_quiet_want; go_big_quiet_op; refine ⟨_, fun _ _ => by with_reducible rfl, ?_⟩; go_big_quiet_on)
    | go_big_quiet_step ((intro hC; first
        | (go_at_call 15; with_reducible exact (Lx.out _).mono fun _ _ h => ⟨h.1, hC.call h.2⟩)
        | (go_at_call 15; with_reducible exact (Ly.out _).mono fun _ _ h => ⟨h.1, hC.call h.2⟩)
        | (go_at_call 10; with_reducible exact (shown_any _).mono fun _ _ h => ⟨h.1, hC.call h.2⟩))))
  refine wpQuiet_nil ?_
  intro w9 hC
  go_wp2_with fail
  go_ret
  exact ⟨rfl, HB0.out.trans (hC.below.mono HB0.out.size)⟩
set_option maxHeartbeats 2000000 in
theorem first3 (a b a' b' : K32) (x : Int) (hA : (bytesA a.1).setIfInBounds 0 (.int .u8 x) = bytesA a'.1) (hB : (bytesA b.1).setIfInBounds 0 (.int .u8 x) = bytesA b'.1) (hx : ltK a' b' = false) (hy : ltK b' a' = false) (he : decide (a' = b') = true) (w : World) :
    Calls Try.prog 9 #[.agg (bytesA a.1), .agg (bytesA b.1), .int .u8 x, .int .u8 x] w fun e w' => e = .returned (.bool true) ∧ Below w.heap.size w w' := by
  have Lx := Lib.hid (less_is hx)
  have Ly := Lib.hid (less_is hy)
  have HE := Lib.hid (eqK_is he)
  have HA := Lib.hid hA
  have HB := Lib.hid hB
  clear hx hy he hA hB
  have K4 := Lib.hid ((Blk.new w 23 (bytesA a.1)).alloc (.cells (bytesA b.1) 23))
  have K5 := Lib.hid (blk_new (w := w.alloc (.cells (bytesA a.1) 23)) 23 (bytesA b.1) (g := w.heap.size + 1) (by simp))
  have HB0 := Lib.hid (show Below w.heap.size w ((w.alloc (.cells (bytesA a.1) 23)).alloc (.cells (bytesA b.1) 23)) from ((Below.refl _ _).alloc (Nat.le_refl _) _).alloc (by simp) _)
  go_enter Try.func9, Try.ntmps9
  go_wp2_with (first
    | ((with_reducible refine at_store 10 9 ?_); refine wpList_store_cell rfl 5 (.tmp 10) (.tmp 9) rfl rfl w.heap.size 0 (.int .u8 x) rfl rfl rfl 23 _ K4.out (by rw [bytesA_size, a.2]; omega) (by kernel_rfl) ?_; intro w3 o3 b3; rw [HA.out] at b3; replace K4 := Lib.hid b3; replace K5 := Lib.hid (o3.blk K5.out (by simp)); replace HB0 := Lib.hid (HB0.out.trans (o3.below (by simp))); clear o3 b3)
    | ((with_reducible refine at_store 12 11 ?_); refine wpList_store_cell rfl 5 (.tmp 12) (.tmp 11) rfl rfl (w.heap.size + 1) 0 (.int .u8 x) rfl rfl rfl 23 _ K5.out (by rw [bytesA_size, b.2]; omega) (by kernel_rfl) ?_; intro w4 o4 b4; rw [HB.out] at b4; replace K5 := Lib.hid b4; replace K4 := Lib.hid (o4.blk K4.out (by simp)); replace HB0 := Lib.hid (HB0.out.trans (o4.below (by simp))); clear o4 b4))
  refine wp_region_from (by kernel_rfl) (by kernel_rfl) ?_
  repeat (first
    | go_big_quiet_skip
    | ((with_reducible refine at_qload 4 ?_); refine wpQuiet_load_row (by rfl) 23 (.tmp 4) rfl w.heap.size rfl 23 (bytesA a'.1) _ (fun _ hC => below_blk hC.below K4.out K4.out.lt) Try.underlying23 rfl (szK a') ?_; simp only [Act.put, List.setIfInBounds_toArray, List.set_cons_succ, List.set_cons_zero])
    | ((with_reducible refine at_qload 5 ?_); refine wpQuiet_load_row (by rfl) 23 (.tmp 5) rfl (w.heap.size + 1) rfl 23 (bytesA b'.1) _ (fun _ hC => below_blk hC.below K5.out K5.out.lt) Try.underlying23 rfl (szK b') ?_; simp only [Act.put, List.setIfInBounds_toArray, List.set_cons_succ, List.set_cons_zero])
    | ((with_reducible refine at_qeql 39 40 ?_); refine wpQuiet_eql_row (by rfl) 23 _ (.tmp 39) (.tmp 40) rfl (bytesA a'.1) (bytesA b'.1) rfl rfl (by kernel_rfl) true HE.out ?_; simp only [Act.put, List.setIfInBounds_toArray, List.set_cons_succ, List.set_cons_zero])
    | (go_big_quiet_want; go_big_quiet_op; refine ⟨_, fun _ _ => by with_reducible rfl, ?_⟩; go_big_quiet_on)
    | go_big_quiet_step ((intro hC; first
        | (go_at_call 15; with_reducible exact (Lx.out _).mono fun _ _ h => ⟨h.1, hC.call h.2⟩)
        | (go_at_call 15; with_reducible exact (Ly.out _).mono fun _ _ h => ⟨h.1, hC.call h.2⟩)
        | (go_at_call 10; with_reducible exact (shown_any _).mono fun _ _ h => ⟨h.1, hC.call h.2⟩))))
  refine wpQuiet_nil ?_
  intro w9 hC
  go_wp2_with fail
  go_ret
  exact ⟨rfl, HB0.out.trans (hC.below.mono HB0.out.size)⟩
set_option maxHeartbeats 2000000 in
theorem first4 (a b a' b' : K32) (x : Int) (hA : (bytesA a.1).setIfInBounds 0 (.int .u8 x) = bytesA a'.1) (hB : (bytesA b.1).setIfInBounds 0 (.int .u8 x) = bytesA b'.1) (hx : ltK a' b' = true) (hy : ltK b' a' = false) (he : decide (a' = b') = false) (w : World) :
    Calls Try.prog 9 #[.agg (bytesA a.1), .agg (bytesA b.1), .int .u8 x, .int .u8 x] w fun e w' => e = .returned (.bool true) ∧ Below w.heap.size w w' := by
  have Lx := Lib.hid (less_is hx)
  have Ly := Lib.hid (less_is hy)
  have HE := Lib.hid (eqK_is he)
  have HA := Lib.hid hA
  have HB := Lib.hid hB
  clear hx hy he hA hB
  have K4 := Lib.hid ((Blk.new w 23 (bytesA a.1)).alloc (.cells (bytesA b.1) 23))
  have K5 := Lib.hid (blk_new (w := w.alloc (.cells (bytesA a.1) 23)) 23 (bytesA b.1) (g := w.heap.size + 1) (by simp))
  have HB0 := Lib.hid (show Below w.heap.size w ((w.alloc (.cells (bytesA a.1) 23)).alloc (.cells (bytesA b.1) 23)) from ((Below.refl _ _).alloc (Nat.le_refl _) _).alloc (by simp) _)
  go_enter Try.func9, Try.ntmps9
  go_wp2_with (first
    | ((with_reducible refine at_store 10 9 ?_); refine wpList_store_cell rfl 5 (.tmp 10) (.tmp 9) rfl rfl w.heap.size 0 (.int .u8 x) rfl rfl rfl 23 _ K4.out (by rw [bytesA_size, a.2]; omega) (by kernel_rfl) ?_; intro w3 o3 b3; rw [HA.out] at b3; replace K4 := Lib.hid b3; replace K5 := Lib.hid (o3.blk K5.out (by simp)); replace HB0 := Lib.hid (HB0.out.trans (o3.below (by simp))); clear o3 b3)
    | ((with_reducible refine at_store 12 11 ?_); refine wpList_store_cell rfl 5 (.tmp 12) (.tmp 11) rfl rfl (w.heap.size + 1) 0 (.int .u8 x) rfl rfl rfl 23 _ K5.out (by rw [bytesA_size, b.2]; omega) (by kernel_rfl) ?_; intro w4 o4 b4; rw [HB.out] at b4; replace K5 := Lib.hid b4; replace K4 := Lib.hid (o4.blk K4.out (by simp)); replace HB0 := Lib.hid (HB0.out.trans (o4.below (by simp))); clear o4 b4))
  refine wp_region_from (by kernel_rfl) (by kernel_rfl) ?_
  repeat (first
    | go_big_quiet_skip
    | ((with_reducible refine at_qload 4 ?_); refine wpQuiet_load_row (by rfl) 23 (.tmp 4) rfl w.heap.size rfl 23 (bytesA a'.1) _ (fun _ hC => below_blk hC.below K4.out K4.out.lt) Try.underlying23 rfl (szK a') ?_; simp only [Act.put, List.setIfInBounds_toArray, List.set_cons_succ, List.set_cons_zero])
    | ((with_reducible refine at_qload 5 ?_); refine wpQuiet_load_row (by rfl) 23 (.tmp 5) rfl (w.heap.size + 1) rfl 23 (bytesA b'.1) _ (fun _ hC => below_blk hC.below K5.out K5.out.lt) Try.underlying23 rfl (szK b') ?_; simp only [Act.put, List.setIfInBounds_toArray, List.set_cons_succ, List.set_cons_zero])
    | ((with_reducible refine at_qeql 39 40 ?_); refine wpQuiet_eql_row (by rfl) 23 _ (.tmp 39) (.tmp 40) rfl (bytesA a'.1) (bytesA b'.1) rfl rfl (by kernel_rfl) false HE.out ?_; simp only [Act.put, List.setIfInBounds_toArray, List.set_cons_succ, List.set_cons_zero])
    | (go_big_quiet_want; go_big_quiet_op; refine ⟨_, fun _ _ => by with_reducible rfl, ?_⟩; go_big_quiet_on)
    | go_big_quiet_step ((intro hC; first
        | (go_at_call 15; with_reducible exact (Lx.out _).mono fun _ _ h => ⟨h.1, hC.call h.2⟩)
        | (go_at_call 15; with_reducible exact (Ly.out _).mono fun _ _ h => ⟨h.1, hC.call h.2⟩)
        | (go_at_call 10; with_reducible exact (shown_any _).mono fun _ _ h => ⟨h.1, hC.call h.2⟩))))
  refine wpQuiet_nil ?_
  intro w9 hC
  go_wp2_with fail
  go_ret
  exact ⟨rfl, HB0.out.trans (hC.below.mono HB0.out.size)⟩
set_option maxHeartbeats 2000000 in
theorem first5 (a b a' b' : K32) (x : Int) (hA : (bytesA a.1).setIfInBounds 0 (.int .u8 x) = bytesA a'.1) (hB : (bytesA b.1).setIfInBounds 0 (.int .u8 x) = bytesA b'.1) (hx : ltK a' b' = false) (hy : ltK b' a' = true) (he : decide (a' = b') = false) (w : World) :
    Calls Try.prog 9 #[.agg (bytesA a.1), .agg (bytesA b.1), .int .u8 x, .int .u8 x] w fun e w' => e = .returned (.bool true) ∧ Below w.heap.size w w' := by
  have Lx := Lib.hid (less_is hx)
  have Ly := Lib.hid (less_is hy)
  have HE := Lib.hid (eqK_is he)
  have HA := Lib.hid hA
  have HB := Lib.hid hB
  clear hx hy he hA hB
  have K4 := Lib.hid ((Blk.new w 23 (bytesA a.1)).alloc (.cells (bytesA b.1) 23))
  have K5 := Lib.hid (blk_new (w := w.alloc (.cells (bytesA a.1) 23)) 23 (bytesA b.1) (g := w.heap.size + 1) (by simp))
  have HB0 := Lib.hid (show Below w.heap.size w ((w.alloc (.cells (bytesA a.1) 23)).alloc (.cells (bytesA b.1) 23)) from ((Below.refl _ _).alloc (Nat.le_refl _) _).alloc (by simp) _)
  go_enter Try.func9, Try.ntmps9
  go_wp2_with (first
    | ((with_reducible refine at_store 10 9 ?_); refine wpList_store_cell rfl 5 (.tmp 10) (.tmp 9) rfl rfl w.heap.size 0 (.int .u8 x) rfl rfl rfl 23 _ K4.out (by rw [bytesA_size, a.2]; omega) (by kernel_rfl) ?_; intro w3 o3 b3; rw [HA.out] at b3; replace K4 := Lib.hid b3; replace K5 := Lib.hid (o3.blk K5.out (by simp)); replace HB0 := Lib.hid (HB0.out.trans (o3.below (by simp))); clear o3 b3)
    | ((with_reducible refine at_store 12 11 ?_); refine wpList_store_cell rfl 5 (.tmp 12) (.tmp 11) rfl rfl (w.heap.size + 1) 0 (.int .u8 x) rfl rfl rfl 23 _ K5.out (by rw [bytesA_size, b.2]; omega) (by kernel_rfl) ?_; intro w4 o4 b4; rw [HB.out] at b4; replace K5 := Lib.hid b4; replace K4 := Lib.hid (o4.blk K4.out (by simp)); replace HB0 := Lib.hid (HB0.out.trans (o4.below (by simp))); clear o4 b4))
  refine wp_region_from (by kernel_rfl) (by kernel_rfl) ?_
  repeat (first
    | go_big_quiet_skip
    | ((with_reducible refine at_qload 4 ?_); refine wpQuiet_load_row (by rfl) 23 (.tmp 4) rfl w.heap.size rfl 23 (bytesA a'.1) _ (fun _ hC => below_blk hC.below K4.out K4.out.lt) Try.underlying23 rfl (szK a') ?_; simp only [Act.put, List.setIfInBounds_toArray, List.set_cons_succ, List.set_cons_zero])
    | ((with_reducible refine at_qload 5 ?_); refine wpQuiet_load_row (by rfl) 23 (.tmp 5) rfl (w.heap.size + 1) rfl 23 (bytesA b'.1) _ (fun _ hC => below_blk hC.below K5.out K5.out.lt) Try.underlying23 rfl (szK b') ?_; simp only [Act.put, List.setIfInBounds_toArray, List.set_cons_succ, List.set_cons_zero])
    | ((with_reducible refine at_qeql 39 40 ?_); refine wpQuiet_eql_row (by rfl) 23 _ (.tmp 39) (.tmp 40) rfl (bytesA a'.1) (bytesA b'.1) rfl rfl (by kernel_rfl) false HE.out ?_; simp only [Act.put, List.setIfInBounds_toArray, List.set_cons_succ, List.set_cons_zero])
    | (go_big_quiet_want; go_big_quiet_op; refine ⟨_, fun _ _ => by with_reducible rfl, ?_⟩; go_big_quiet_on)
    | go_big_quiet_step ((intro hC; first
        | (go_at_call 15; with_reducible exact (Lx.out _).mono fun _ _ h => ⟨h.1, hC.call h.2⟩)
        | (go_at_call 15; with_reducible exact (Ly.out _).mono fun _ _ h => ⟨h.1, hC.call h.2⟩)
        | (go_at_call 10; with_reducible exact (shown_any _).mono fun _ _ h => ⟨h.1, hC.call h.2⟩))))
  refine wpQuiet_nil ?_
  intro w9 hC
  go_wp2_with fail
  go_ret
  exact ⟨rfl, HB0.out.trans (hC.below.mono HB0.out.size)⟩
theorem korder_walk (a b c : List UInt8) (w : World) (ha : a.length = 32) (hb : b.length = 32) (hc : c.length = 32) :
    Calls Try.prog 5 #[.agg (bytesA a), .agg (bytesA b), .agg (bytesA c)] w fun e w' => e = .returned (.bool true) ∧ Below w.heap.size w w' := by
  obtain ⟨a, rfl⟩ : ∃ k : K32, k.1 = a := ⟨⟨a, ha⟩, rfl⟩
  obtain ⟨b, rfl⟩ : ∃ k : K32, k.1 = b := ⟨⟨b, hb⟩, rfl⟩
  obtain ⟨c, rfl⟩ : ∃ k : K32, k.1 = c := ⟨⟨c, hc⟩, rfl⟩
  cases hx : ltK a b with
  | true =>
    have hy := ltK_asym hx
    have he : decide (a = b) = false := decide_eq_false fun e => by rw [e, ltK_irrefl] at hx; cases hx
    cases hz : ltK b c with
    | true => exact ord1 a b c hx hy hz (ltK_trans hx hz) he w
    | false =>
      cases hu : ltK a c with
      | true => exact ord2 a b c hx hy hz hu he w
      | false => exact ord2' a b c hx hy hz hu he w
  | false =>
    cases hy : ltK b a with
    | true =>
      have he : decide (a = b) = false := decide_eq_false fun e => by rw [e, ltK_irrefl] at hy; cases hy
      cases hz : ltK b c <;> cases hu : ltK a c
      · exact ord3a a b c hx hy hz hu he w
      · exact ord3b a b c hx hy hz hu he w
      · exact ord3c a b c hx hy hz hu he w
      · exact ord3 a b c hx hy hz hu he w
    | false =>
      have e := ltK_tri hx hy
      subst e
      have he : decide (a = a) = true := decide_eq_true rfl
      cases hz : ltK a c
      · exact ord4a a a c hx hy hz hz he w
      · exact ord4 a a c hx hy hz hz he w
theorem ltK_first (a b : K32) (x y : UInt8) (h : x < y) : ltK ⟨a.1.set 0 x, by rw [List.length_set, a.2]⟩ ⟨b.1.set 0 y, by rw [List.length_set, b.2]⟩ = true := by
  obtain ⟨la, ha⟩ := a
  obtain ⟨lb, hb⟩ := b
  rcases la with _ | ⟨p, la⟩
  · simp at ha
  rcases lb with _ | ⟨q, lb⟩
  · simp at hb
  simp only [ltK, cmpK, List.set_cons_zero, Lib.compareBytes, h, if_true]
  decide
theorem kfirst_walk (a b : List UInt8) (x y : Int) (w : World) (ha : a.length = 32) (hb : b.length = 32) (hx : (Lit.int .u8 x).wf = true) (hy : (Lit.int .u8 y).wf = true) :
    Calls Try.prog 9 #[.agg (bytesA a), .agg (bytesA b), .int .u8 x, .int .u8 y] w fun e w' => e = .returned (.bool true) ∧ Below w.heap.size w w' := by
  obtain ⟨a, rfl⟩ : ∃ k : K32, k.1 = a := ⟨⟨a, ha⟩, rfl⟩
  obtain ⟨b, rfl⟩ : ∃ k : K32, k.1 = b := ⟨⟨b, hb⟩, rfl⟩
  have hb8 : ∀ z : Int, (Lit.int .u8 z).wf = true → ∃ u : UInt8, (u.toNat : Int) = z := fun z hz => by
    simp [Lit.wf, IntKind.min, IntKind.max, IntKind.signed, IntKind.bits] at hz
    exact ⟨UInt8.ofNat z.toNat, by simp; omega⟩
  obtain ⟨x, rfl⟩ := hb8 x hx
  obtain ⟨y, rfl⟩ := hb8 y hy
  obtain ⟨a', ha'⟩ : ∃ k : K32, k.1 = a.1.set 0 x := ⟨⟨a.1.set 0 x, by rw [List.length_set, a.2]⟩, rfl⟩
  obtain ⟨b', hb'⟩ : ∃ k : K32, k.1 = b.1.set 0 y := ⟨⟨b.1.set 0 y, by rw [List.length_set, b.2]⟩, rfl⟩
  have hA : (bytesA a.1).setIfInBounds 0 (.int .u8 (x.toNat : Int)) = bytesA a'.1 := by rw [bytesA_set, ha']
  have hB : (bytesA b.1).setIfInBounds 0 (.int .u8 (y.toNat : Int)) = bytesA b'.1 := by rw [bytesA_set, hb']
  have ea : a' = ⟨a.1.set 0 x, by rw [List.length_set, a.2]⟩ := Subtype.ext ha'
  have eb : b' = ⟨b.1.set 0 y, by rw [List.length_set, b.2]⟩ := Subtype.ext hb'
  by_cases h1 : x < y
  · have hl : ltK a' b' = true := by rw [ea, eb]; exact ltK_first a b x y h1
    have h1' := UInt8.lt_iff_toNat_lt.1 h1
    exact first1 a b a' b' _ _ hA hB hl (ltK_asym hl) (decide_eq_false fun e => by rw [e, ltK_irrefl] at hl; cases hl) (by omega) (decide_eq_true (by omega)) w
  · by_cases h2 : y < x
    · have hl : ltK b' a' = true := by rw [ea, eb]; exact ltK_first b a y x h2
      have h2' := UInt8.lt_iff_toNat_lt.1 h2
      exact first2 a b a' b' _ _ hA hB (ltK_asym hl) hl (decide_eq_false fun e => by rw [e, ltK_irrefl] at hl; cases hl) (by omega) (decide_eq_false (by omega)) w
    · have e : x = y := UInt8.le_antisymm (UInt8.not_lt.1 h2) (UInt8.not_lt.1 h1)
      subst e
      cases h3 : ltK a' b' with
      | true => exact first4 a b a' b' _ hA hB h3 (ltK_asym h3) (decide_eq_false fun e => by rw [e, ltK_irrefl] at h3; cases h3) w
      | false =>
        cases h4 : ltK b' a' with
        | true => exact first5 a b a' b' _ hA hB h3 h4 (decide_eq_false fun e => by rw [e, ltK_irrefl] at h4; cases h4) w
        | false => exact first3 a b a' b' _ hA hB h3 h4 (decide_eq_true (ltK_tri h3 h4)) w
end Go.Proofs.Ytdojjddobepccaa
