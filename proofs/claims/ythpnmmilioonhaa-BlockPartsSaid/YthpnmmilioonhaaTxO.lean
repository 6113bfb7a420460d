/- The document's Read of a transaction: a number, a key, how many, keys. -/
import Derived.Test.YthpnmmilioonhaaTxN
import Derived.Test.YthpnmmilioonhaaTxOw
import Derived.Test.YthpnmmilioonhaaGenA
import Derived.Test.YthpnmmilioonhaaCodAll
namespace Go.Proofs.Ythpnmmilioonhaa
open Go.RowKit
/-- how a function of the document's ends that takes something off the bytes -/
def EndG {α : Type} (V : α → Value) (z : Value) (w : World) (x : Except Int (α × List UInt8)) (e : Ending) (w' : World) : Prop :=
  Below w.heap.size w w' ∧ match x with
  | .ok (a, r) => e = .returned (.tuple #[V a, .string ⟨r.toArray⟩, .int .i64 0])
  | .error er => e = .returned (.tuple #[z, .string ⟨#[]⟩, .int .i64 er])
abbrev vu64 (n : Nat) : Value := .int .u64 n
abbrev vi64 (n : Nat) : Value := .int .i64 n
abbrev vky (k : K32) : Value := .agg (encK k).toArray
theorem rGet_r (l : List UInt8) (hs : l.length ≤ 1000000) (wd : Nat) (h1 : 1 ≤ wd) (h8 : wd ≤ 8) (w : World) :
    Calls Try.prog 34 #[.string ⟨l.toArray⟩, .int .i64 wd] w (EndG vu64 (vu64 0) w (getR wd l)) := by
  have h := refGet_any ⟨l.toArray⟩ (by rw [mkb_size]; exact hs) wd w
  refine h.mono ?_
  rintro e w' ⟨rfl, hb⟩
  refine ⟨hb, ?_⟩
  rcases getR_f wd h1 h8 l with ⟨_, hf, hg⟩ | ⟨_, hf, hg⟩
  · rw [hg]
    show Ending.returned (getV (getF l wd)) = _
    rw [hf]
    rfl
  · rw [hg]
    show Ending.returned (getV (getF l wd)) = _
    rw [hf]
    rfl
theorem rKey_r (l : List UInt8) (hs : l.length ≤ 1000000) (w : World) :
    Calls Try.prog 33 #[.string ⟨l.toArray⟩] w (EndG vky (vky zeroKey) w (keyR l)) := by
  refine (refKey_any ⟨l.toArray⟩ (by rw [mkb_size]; exact hs) w).mono ?_
  rintro e w' ⟨rfl, hb⟩
  refine ⟨hb, ?_⟩
  rcases keyR_f l with ⟨hf, hg⟩ | ⟨k, r, hf, hg⟩
  · rw [hg]
    show Ending.returned (keyV (keyF l)) = _
    rw [hf]
    unfold keyV vky
    rw [encK_arr]
    rfl
  · rw [hg]
    show Ending.returned (keyV (keyF l)) = _
    rw [hf]
    unfold keyV vky
    rw [encK_arr]
theorem rMany_r (l : List UInt8) (hs : l.length ≤ 1000000) (w : World) :
    Calls Try.prog 77 #[.string ⟨l.toArray⟩] w (EndG vi64 (vi64 0) w (numR l)) := by
  have hC : Calls Try.prog 35 #[.string ⟨l.toArray⟩] w fun e w' => e = .returned (getV (readF l)) ∧ Below w.heap.size w w' := refRead_any ⟨l.toArray⟩ (by rw [mkb_size]; exact hs) w
  rcases readR_f l with ⟨er, h0, hf, hg⟩ | ⟨n, r, hf, hg, hn⟩
  · rw [show numR l = .error er by unfold numR; rw [hf]; exact if_neg h0]
    rw [hf] at hC
    have HC := Lib.hid hC
    have hd : (er == 0) = false := beq_eq_false_iff_ne.mpr h0
    clear hf hg hC h0
    go_enter Try.func77, Try.ntmps77
    go_wp2_with fail
    refine HC.out.mono ?_
    rintro e w1 ⟨rfl, b1⟩
    unfold getV
    go_wp2
    go_ret3
    exact ⟨b1, rfl⟩
  · rw [hf] at hC
    have HC := Lib.hid hC
    by_cases h40 : 40 < n
    · rw [show numR l = .error 51 by unfold numR; rw [hf]; simp [h40]]
      have hd : decide ((40 : Int) < n) = true := by simp; omega
      clear hf hg hC hn h40
      go_enter Try.func77, Try.ntmps77
      go_wp2_with fail
      refine HC.out.mono ?_
      rintro e w1 ⟨rfl, b1⟩
      unfold getV
      go_wp2
      go_ret3
      exact ⟨b1, rfl⟩
    · rw [show numR l = .ok (n, r) by unfold numR; rw [hf]; simp [h40]]
      have hd : decide ((40 : Int) < n) = false := by simp; omega
      have HW := Lib.hid (show wrap64 (n : Int) = n by unfold wrap64; omega)
      clear hf hg hC hn h40
      go_enter Try.func77, Try.ntmps77
      go_wp2_with fail
      refine HC.out.mono ?_
      rintro e w1 ⟨rfl, b1⟩
      unfold getV
      go_wp2
      go_ret3
      refine ⟨b1, ?_⟩
      show Ending.returned (Value.tuple #[_, _, _]) = Ending.returned (Value.tuple #[vi64 n, _, _])
      rw [show (Value.int .i64 (wrap64 (n : Int))) = vi64 n from congrArg (Value.int .i64) HW.out]
      rfl
/-- how keys ends: a slice of its own, with room behind -/
def EndKs (w : World) (x : Except Int (List K32 × List UInt8)) (e : Ending) (w' : World) : Prop :=
  Below w.heap.size w w' ∧ match x with
  | .ok (l, r) => ∃ A c, e = .returned (.tuple #[.slice A l.length c, .string ⟨r.toArray⟩, .int .i64 0]) ∧ w'.ownsRow w.heap.size 24 32 (.slice A l.length c) l.length (cellsOf encK l)
  | .error er => e = .returned (.tuple #[.slice none 0 0, .string ⟨#[]⟩, .int .i64 er])
set_option maxRecDepth 20000 in
set_option maxHeartbeats 1000000 in
theorem rKeys_r (n : Nat) (hn : n ≤ 1000) (l : List UInt8) (hs : l.length ≤ 1000000) (w : World) :
    Calls Try.prog 78 #[.int .i64 n, .string ⟨l.toArray⟩] w (EndKs w (listR keyR n l)) := by
  obtain ⟨X, hX⟩ : ∃ X, listR keyR n l = X := ⟨_, rfl⟩
  rw [hX]
  have HX := Lib.hid hX
  clear hX
  go_enter Try.func78, Try.ntmps78
  go_wp2_with fail
  go_loopw [1, 7, 8] (fun s o i wr => ∃ (lst : List K32) (r : List UInt8) (m : Nat), lst.length + m = n ∧ i = .int .i64 (lst.length : Nat) ∧ s = .string ⟨r.toArray⟩ ∧ Hid (X = contL lst (listR keyR m r) ∧ r.length ≤ 1000000) ∧ Hid (wr.ownsRow w.heap.size 24 32 o lst.length (cellsOf encK lst)) ∧ Hid (Below w.heap.size w wr)) (fun _ _ i _ => n - (intOf i).toNat)
  case atStart =>
    refine ⟨[], l, n, by simp, rfl, rfl, Lib.hid ⟨?_, hs⟩, Lib.hid ?_, Lib.hid ((Below.refl _ _).alloc (Nat.le_refl _) _)⟩
    · rw [HX.out]; cases X <;> rfl
    · exact xown_nil (Blk.new w _ _) (Nat.le_refl _)
  case round =>
    obtain ⟨lst, r, m, hlm, rfl, rfl, hx, hw, hb⟩ := hrel
    obtain ⟨j, hj⟩ : ∃ j, lst.length = j := ⟨_, rfl⟩
    have HJ := Lib.hid hj
    cases m with
    | zero =>
      have hjn : j = n := by omega
      obtain ⟨A, c, hv, _⟩ := RowIn.of_own encK_len hw.out
      subst hv
      have HR := Lib.hid hw.out
      rw [hj]
      clear hlm hj hw
      subst hjn
      go_wp2
      go_ret3
      rw [hx.out.1]
      refine ⟨hb.out, A, c, ?_, ?_⟩
      · rw [List.append_nil, HJ.out]
        rfl
      · rw [List.append_nil]; exact HR.out
    | succ m =>
      have hlt : j < n := by omega
      rw [hj]
      clear hj
      have hc := rKey_r r hx.out.2 wr
      cases hq : keyR r with
      | error er =>
        rw [hq] at hc
        have HC := Lib.hid hc
        have he0 : er ≠ 0 := by rcases errs_key r er hq with h | h | h <;> omega
        have hd : (er == 0) = false := beq_eq_false_iff_ne.mpr he0
        have HE := Lib.hid (show X = .error er by rw [hx.out.1, listR_err hq]; rfl)
        clear hc hq hlm he0
        go_wp2_with fail
        refine HC.out.mono ?_
        rintro e w1 ⟨b1, rfl⟩
        have B1 := Lib.hid (hb.out.trans (b1.mono hb.out.size))
        clear b1
        go_wp2_with ((with_reducible refine at_store 9 21 ?_); refine tyKc.wpList_store rfl (.tmp 9) (.tmp 21) rfl rfl w1.heap.size zeroKey rfl rfl 24 _ (Blk.new w1 _ _) rfl ?_; intro w2 o2 b2)
        go_ret3
        refine ⟨(B1.out.alloc B1.out.size _).trans (o2.below (by simp; exact B1.out.size)), ?_⟩
        rw [HE.out]
        rfl
      | ok x =>
        obtain ⟨a, r2⟩ := x
        rw [hq] at hc
        have HC := Lib.hid hc
        have HE := Lib.hid (show X = contL (lst ++ [a]) (listR keyR m r2) by rw [hx.out.1, listR_ok hq])
        have HS := Lib.hid (rest_len good_key hq hx.out.2)
        have HLM := Lib.hid hlm
        clear hc hq hlm
        go_wp2_with fail
        refine HC.out.mono ?_
        rintro e w1 ⟨b1, rfl⟩
        have B1 := Lib.hid (hb.out.trans (b1.mono hb.out.size))
        have O1 := Lib.hid (xown_from hw.out b1)
        clear b1 HC hw hb hx
        go_wp2_with (first
          | ((with_reducible refine at_store 9 21 ?_); refine tyKc.wpList_store rfl (.tmp 9) (.tmp 21) rfl rfl w1.heap.size a rfl rfl 24 _ (Blk.new w1 _ _) rfl ?_; intro w2 o2 b2
             have K2 := Lib.hid b2
             have B2 := Lib.hid ((B1.out.alloc B1.out.size _).trans (o2.below (by simp; exact B1.out.size)))
             have O2 := Lib.hid (xown_from O1.out (((Below.refl w1.heap.size w1).alloc (Nat.le_refl _) _).trans (o2.below (by simp))))
             clear b2 o2 B1 O1)
          | ((with_reducible refine at_load 9 ?_); refine tyKy.wpList_load rfl (.tmp 9) rfl w1.heap.size 0 rfl a (by simpa [encK] using RowC.of_blk K2.out) ?_)
          | ((with_reducible refine at_buildSlice 29 ?_); refine tyKy.wpList_build rfl zsKy 1 _ rfl [a] rfl (by omega) (by omega) (by kernel_rfl) ?_)
          | ((with_reducible refine at_appendg 30 27 29 ?_); refine tyKy.wpList_append1 rfl zcKy 32 zbKy (by omega) (.tmp 27) (.tmp 29) rfl w.heap.size _ lst rfl (O2.out.alloc _) _ 1 a rfl (Blk.new _ _ _) (by rw [HJ.out]; omega) (by have := B2.out.size; simp; omega) ?_; intro v3 w3 p3 g3
             have O3 := Lib.hid p3
             have B3 := Lib.hid ((B2.out.alloc B2.out.size _).trans (xown_grown (O2.out.alloc _) g3 (by have := B2.out.size; simp; omega)))
             clear p3 g3))
        have e1 : (lst ++ [a]).length = j + 1 := by rw [List.length_append, HJ.out]; rfl
        go_roundw
        case rel => exact ⟨lst ++ [a], r2, m, by rw [e1]; have h1 := HLM.out; have h2 := HJ.out; omega, by rw [e1]; go_num, rfl, Lib.hid ⟨HE.out, HS.out⟩, O3, B3⟩
        case measure => simp [intOf]; omega
end Go.Proofs.Ythpnmmilioonhaa
