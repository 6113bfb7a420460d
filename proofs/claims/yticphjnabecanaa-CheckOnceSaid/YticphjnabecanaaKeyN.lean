/- keys.Meet. -/
import Derived.Test.YticphjnabecanaaKeyL
import Derived.Test.YticphjnabecanaaGenA
namespace Go.Proofs.Yticphjnabecanaa
open Go.RowKit Go.Sort
def meetF (a b : List K32) : Bool := b.any fun k => decide (k ∈ a)
theorem meetC_any (p1 : Addr) (A : Option Addr) (c : Nat) (l : List K32) (B : Nat) (hl : l.length ≤ 1000000) (hr : Rises l) (k : K32) (W : World) (hB : B ≤ W.heap.size) (h : RowIn encK 32 W B A c l) (h1 : W.cell? p1 = some (.slice A l.length c)) :
    Calls Try.prog 55 #[.agg (bytesA k.1), .pointer (some p1)] W fun e w' => e = .returned (.bool (decide (k ∈ l))) ∧ Below W.heap.size W w' := by
  have B1 : Below W.heap.size W (W.alloc (.cells (bytesA k.1) 26)) := (Below.refl _ _).alloc (Nat.le_refl _) _
  have hc1 : (W.alloc (.cells (bytesA k.1) 26)).cell? p1 = some (.slice A l.length c) := (World.cell?_alloc_lt _ _ p1 (World.block_lt_of_cell? _ _ h1)).trans h1
  have K2 := Lib.hid (Blk.new W 26 (bytesA k.1))
  have HV := Lib.hid (halves_any A c l k B hl hr (W.alloc (.cells (bytesA k.1) 26)) (by simp; omega) (h.below (B1.mono hB)))
  have ra := rowAgg
  clear h h1 hr
  obtain ⟨r, hr⟩ : ∃ r, decide (k ∈ l) = r := ⟨_, rfl⟩
  rw [hr] at HV ⊢
  obtain ⟨j, hj⟩ : ∃ j, lowI k l = j := ⟨_, rfl⟩
  rw [hj] at HV
  obtain ⟨n, hn⟩ : ∃ n, l.length = n := ⟨_, rfl⟩
  rw [hn] at HV hc1
  clear hn hj hr hl
  go_enter Try.func55, Try.ntmps55
  go_wp2_with (first
    | ((with_reducible refine at_loadg 2 ?_); refine wpList_load_rowg (by rfl) 26 (.tmp 2) rfl W.heap.size rfl 26 (bytesA k.1) _ K2.out Try.underlying26 rfl (szK k) ?_)
    | (go_at_call 56; refine HV.out.mono ?_; rintro e w1 ⟨rfl, b1⟩))
  go_ret
  exact ⟨rfl, B1.trans (b1.mono (by simp))⟩
theorem enters33 : ∀ args w, (callFunc 55 args).run Try.prog w = .ok (.enter 55 args) w := enters_of Try.func55 (by kernel_rfl) rfl
set_option maxRecDepth 20000 in
set_option maxHeartbeats 1000000 in
theorem meet_any (A : Option Addr) (c : Nat) (l : List K32) (A' : Option Addr) (c' : Nat) (m : List K32) (B : Nat) (hl : l.length ≤ 1000000) (hm : m.length ≤ 1000000) (w : World) (hB : B ≤ w.heap.size) (h : RowIn encK 32 w B A c l) (h' : RowIn encK 32 w B A' c' m) :
    Calls Try.prog 27 #[.slice A l.length c, .slice A' m.length c'] w fun e w' => e = .returned (.bool (meetF l m)) ∧ Below w.heap.size w w' := by
  have HS := Lib.hid (sort_any A c l B w hl hB h)
  have HC := Lib.hid (fun (p : Nat) (A1 : Option Addr) (c1 : Nat) W (hW : Below w.heap.size w W) (hr : RowIn encK 32 W W.heap.size A1 c1 (sortK l)) (h1 : W.cell? ⟨p, 0, none⟩ = some (.slice A1 (sortK l).length c1)) =>
    containsFunc_any A' c' m B W hm (Nat.le_trans hB hW.size) (h'.below (hW.mono hB)) 55 #[.pointer (some ⟨p, 0, none⟩)] (fun k => decide (k ∈ sortK l)) enters33
      (fun x W' hb => meetC_any ⟨p, 0, none⟩ A1 c1 (sortK l) W.heap.size (by rw [sortK_len]; exact hl) (sortK_rises l) x W' hb.size (hr.below hb) ((hb.cell (p := ⟨p, 0, none⟩) (World.block_lt_of_cell? _ _ h1)).trans h1)))
  have hf : meetF l m = m.any fun k => decide (k ∈ sortK l) := by unfold meetF; congr 1; funext k; rw [decide_eq_decide]; exact sortK_mem.symm
  clear h h'
  rw [hf]
  obtain ⟨r, hr⟩ : ∃ r, (m.any fun k => decide (k ∈ sortK l)) = r := ⟨_, rfl⟩
  rw [hr] at HC ⊢
  have HSL := Lib.hid (sortK_len l)
  rw [sortK_len] at HC
  obtain ⟨n, hn⟩ : ∃ n, l.length = n := ⟨_, rfl⟩
  rw [hn] at HS HC HSL ⊢
  obtain ⟨n', hn'⟩ : ∃ n, m.length = n := ⟨_, rfl⟩
  rw [hn'] at HC ⊢
  clear hn hn' hr hf hl hm
  go_enter Try.func27, Try.ntmps27
  go_wp2_with fail
  refine HS.out.mono ?_
  rintro e w1 ⟨v, rfl, o1, b1⟩
  rw [← HSL.out] at o1
  obtain ⟨A1, c1, rfl, hr⟩ := RowIn.of_own encK_len o1
  rw [HSL.out]
  have HR := Lib.hid hr
  clear hr o1
  go_wp2_with (first
    | ((with_reducible refine at_store 5 7 ?_); refine wpList_store_blk rfl 27 (.tmp 5) (.tmp 7) rfl rfl w1.heap.size _ rfl rfl rfl 27 _ (Blk.new w1 27 #[.slice none 0 0]) (by kernel_rfl) ?_; intro w2 o2 b2; have B2 := (b1.alloc b1.size _).trans (o2.below (by simp; exact b1.size)); have BB := ((Below.refl w1.heap.size w1).alloc (Nat.le_refl _) (.cells #[.slice none 0 0] 27)).trans (o2.below (by simp)); have HR2 := Lib.hid ((HR.out.below BB).more BB.size); have HB2 := Lib.hid (b2.cell 0))
    | (go_at_call 54; refine (HC.out w1.heap.size A1 c1 w2 B2 HR2.out HB2.out).mono ?_; rintro e w3 ⟨rfl, b3⟩))
  go_ret
  exact ⟨rfl, B2.trans (b3.mono B2.size)⟩
end Go.Proofs.Yticphjnabecanaa
