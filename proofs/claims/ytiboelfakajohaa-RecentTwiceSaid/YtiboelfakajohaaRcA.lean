/- Evicted transactions: plain; their cells; the document's young, Put, Has, Old, Same; the law's theirs. Written by genRcA.py. -/
import Derived.Test.YtiboelfakajohaaCellB
namespace Go.Proofs.Ytiboelfakajohaa
open Go.RowKit
abbrev ItV := K32 × IntV .u64
theorem wf_u64i (z : IntV .u64) : 0 ≤ z.1 ∧ z.1 < 18446744073709551616 := by
  have := z.2
  simp [Lit.wf, IntKind.min, IntKind.max, IntKind.signed, IntKind.bits] at this
  omega
/-- whether its time is not over -/
def youngF (x : ItV) (now : Int) : Bool := decide (18446744073709551555 < x.2.1) || decide (now < x.2.1 + 60)
def addI (l : List ItV) (id : K32) (now : IntV .u64) : List ItV := l.filter (fun x => !(decide (x.1 = id))) ++ [(id, now)]
def putI (l : List ItV) (id : K32) (now : IntV .u64) : List ItV := (addI l id now).drop ((addI l id now).length - 5)
def hasI (l : List ItV) (id : K32) (now : Int) : Bool := l.any fun x => decide (x.1 = id) && youngF x now
def oldI (l : List ItV) (now : Int) : List ItV := l.filter fun x => youngF x now
theorem addI_len (l : List ItV) (id : K32) (now : IntV .u64) : (addI l id now).length ≤ l.length + 1 := by
  unfold addI
  rw [List.length_append, List.length_singleton]
  have := List.length_filter_le (fun x : ItV => !(decide (x.1 = id))) l
  omega
theorem putI_len (l : List ItV) (id : K32) (now : IntV .u64) : (putI l id now).length ≤ 5 := by
  unfold putI
  rw [List.length_drop]
  omega
theorem tyIt : RowTy Try.prog 22 40 (encKI .u64) 33 := ⟨Try.underlying22, by kernel_rfl, encKI_len _, encKI_one _, Try.isAgg40, by omega⟩
theorem tyIr : RowTy Try.prog 28 43 (encKI .u64) 33 := ⟨Try.underlying28, by kernel_rfl, encKI_len _, encKI_one _, Try.isAgg43, by omega⟩
theorem tyItc : CellTy Try.prog 40 (encKI .u64) 33 := ⟨tyIt.size, tyIt.len, tyIt.one, tyIt.agg⟩
theorem tyIrc : CellTy Try.prog 43 (encKI .u64) 33 := ⟨tyIr.size, tyIr.len, tyIr.one, tyIr.agg⟩
theorem zcIt : ((Try.prog.info? 40).bind (·.zero)).map (·.cells.size) = some 33 := by kernel_rfl
theorem zcIr : ((Try.prog.info? 43).bind (·.zero)).map (·.cells.size) = some 33 := by kernel_rfl
theorem zsIt : ((Try.prog.info? 40).bind (·.zero)).isSome = true := by kernel_rfl
theorem zsIr : ((Try.prog.info? 43).bind (·.zero)).isSome = true := by kernel_rfl
theorem zbIt : (Try.prog.info? 40).map (·.bytes) = some 40 := by kernel_rfl
theorem zbIr : (Try.prog.info? 43).map (·.bytes) = some 40 := by kernel_rfl
theorem iown_nil {w : World} {g : Nat} {base : Nat} {e : TypeId} {k : Nat} (hb : Blk w g e #[]) (hg : base ≤ g) : w.ownsRow base e k (.slice (some ⟨g, 0, none⟩) 0 0) 0 [] :=
  ⟨by simp, .inr ⟨g, 0, #[], rfl, hg, hb, Nat.le_refl _, Nat.zero_le _, by simp, by simp⟩⟩
theorem iown_congr {α : Type} {enc : α → List Value} {w : World} {base : Nat} {e : TypeId} {size : Nat} {v : Value} {l m : List α} (h : w.ownsRow base e size v l.length (cellsOf enc l)) (e' : l = m) : w.ownsRow base e size v m.length (cellsOf enc m) := e' ▸ h
theorem iown_grown {w w' : World} {base : Nat} {e : TypeId} {size n : Nat} {v : Value} {xs : List Value} (h : w.ownsRow base e size v n xs) (hg : w.grownBy w' v.ownBlock) (hB : base ≤ w.heap.size) : Below base w w' := (Below.refl _ _).grown hg hB (own_base h)
theorem iown_below {w w' : World} {B e size n : Nat} {v : Value} {xs : List Value} (h : w.ownsRow B e size v n xs) (hb : Below w.heap.size w w') : w'.ownsRow B e size v n xs := by
  refine ⟨h.1, ?_⟩
  rcases h.2 with hn | ⟨g, cap, cur, rfl, hg, hgg, rest⟩
  · exact .inl hn
  · exact .inr ⟨g, cap, cur, rfl, hg, by rw [hb.block g (Array.getElem?_eq_some_iff.1 hgg).1]; exact hgg, rest⟩
theorem ibuilt (t : TypeId) (ht : t = 43 ∨ t = 40) (k : K32) (z : IntV .u64) : Try.prog.built t [(0, .agg (encK k).toArray), (1, .int .u64 z.1)] = some ((encKI .u64) (k, z)).toArray := by
  obtain ⟨l, hl⟩ := k
  iterate 32 (rcases l with _ | ⟨b, l⟩; · simp at hl)
  rcases l with _ | ⟨b, l⟩
  · rcases ht with rfl | rfl <;> kernel_rfl
  · simp at hl
theorem eqIr_run (x y : ItV) (V : World) : (Op.equal 43 (.agg ((encKI .u64) x).toArray) (.agg ((encKI .u64) y).toArray)).run Try.prog V = .ok (decide (x = y)) V :=
  run_eq_KI (f0 := (Try.prog.fieldsOf 43)[0]!) (f1 := (Try.prog.fieldsOf 43)[1]!) V (by kernel_rfl) (by kernel_rfl) (by decide +kernel) (by decide +kernel) (by kernel_rfl) (by kernel_rfl) (by kernel_rfl) (by kernel_rfl) Try.underlying24 Try.underlying5 (by kernel_rfl) (by kernel_rfl) Try.underlying25 x y
theorem eqIt_run (x y : ItV) (V : World) : (Op.equal 40 (.agg ((encKI .u64) x).toArray) (.agg ((encKI .u64) y).toArray)).run Try.prog V = .ok (decide (x = y)) V :=
  run_eq_KI (f0 := (Try.prog.fieldsOf 40)[0]!) (f1 := (Try.prog.fieldsOf 40)[1]!) V (by kernel_rfl) (by kernel_rfl) (by decide +kernel) (by decide +kernel) (by kernel_rfl) (by kernel_rfl) (by kernel_rfl) (by kernel_rfl) Try.underlying24 Try.underlying5 (by kernel_rfl) (by kernel_rfl) Try.underlying25 x y
set_option maxRecDepth 20000 in
set_option maxHeartbeats 2000000 in
theorem rYoung_w (x : ItV) (now : IntV .u64) (w : World) :
    Calls Try.prog 22 #[.agg ((encKI .u64) x).toArray, .int .u64 now.1] w fun e w' => e = .returned (.bool (youngF x now.1)) ∧ Below w.heap.size w w' := by
  obtain ⟨r, hr⟩ : ∃ r, youngF x now.1 = r := ⟨_, rfl⟩
  rw [hr]
  have HR := Lib.hid hr
  have hx := wf_u64i x.2
  have c1 : (w.alloc (.cells ((encKI .u64) x).toArray 43)).cell? ⟨w.heap.size, 32, none⟩ = some (.int .u64 x.2.1) := by
    have := RowC.ki_int (RowC.of_blk (Blk.new w 43 ((encKI .u64) x).toArray))
    simpa using this
  have B0 := Lib.hid (show Below w.heap.size w (w.alloc (.cells ((encKI .u64) x).toArray 43)) from (Below.refl _ _).alloc (Nat.le_refl _) _)
  obtain ⟨z, hz⟩ : ∃ z, x.2.1 = z := ⟨_, rfl⟩
  obtain ⟨n, hn⟩ : ∃ n, now.1 = n := ⟨_, rfl⟩
  have HZ := Lib.hid (And.intro hz hn)
  rw [hz] at c1 hx
  rw [hn]
  clear hr hz hn
  by_cases h : 18446744073709551555 < z
  · have hd : decide ((18446744073709551555 : Int) < z) = true := decide_eq_true h
    have HX := Lib.hid (show r = true by rw [← HR.out]; unfold youngF; rw [HZ.out.1, hd]; rfl)
    clear h hx
    go_enter Try.func22, Try.ntmps22
    go_wp2_with fail
    go_ret
    exact ⟨by rw [HX.out]; rfl, B0.out⟩
  · have hd : decide ((18446744073709551555 : Int) < z) = false := decide_eq_false h
    have hw : IntKind.u64.wrap (z + 60) = z + 60 := by rw [IntKind.wrap_u64]; omega
    obtain ⟨q, hq⟩ : ∃ q, decide (n < z + 60) = q := ⟨_, rfl⟩
    have HX := Lib.hid (show r = q by rw [← HR.out]; unfold youngF; rw [HZ.out.1, HZ.out.2, hd, hq]; rfl)
    clear h hx
    go_enter Try.func22, Try.ntmps22
    go_wp2_with fail
    go_ret
    exact ⟨by rw [HX.out]; rfl, B0.out⟩
set_option maxRecDepth 20000 in
set_option maxHeartbeats 2000000 in
theorem itheirs_w (A : Option Addr) (c : Nat) (l : List ItV) (w : World) (hl : RowIn (encKI .u64) 33 w w.heap.size A c l) (hn : l.length ≤ 1000) :
    Calls Try.prog 9 #[.slice A l.length c] w fun e w' => ∃ A' c', e = .returned (.slice A' l.length c') ∧ RowIn (encKI .u64) 33 w' w'.heap.size A' c' l ∧ Below w.heap.size w w' := by
  have B0 := Lib.hid (show Below w.heap.size w (w.alloc (.cells #[] 43)) from (Below.refl w.heap.size w).alloc (Nat.le_refl _) _)
  have O0 := Lib.hid (show World.ownsRow (w.alloc (.cells #[] 43)) w.heap.size 43 33 (.slice (some ⟨w.heap.size, 0, none⟩) 0 0) (l.take 0).length (cellsOf (encKI .u64) (l.take 0)) from iown_nil (Blk.new w 43 #[]) (Nat.le_refl _))
  have HL := Lib.hid hl
  clear hl
  go_enter Try.func9, Try.ntmps9
  go_wp2_with fail
  go_loopw [3, 4] (fun so si wr => ∃ j : Nat, si = .int .i64 j ∧ j ≤ l.length ∧ Hid (wr.ownsRow w.heap.size 43 33 so (l.take j).length (cellsOf (encKI .u64) (l.take j))) ∧ Hid (Below w.heap.size w wr)) (fun _ si _ => l.length - (intOf si).toNat)
  case atStart => exact ⟨0, rfl, by omega, O0, B0⟩
  case round =>
    clear O0 B0
    obtain ⟨j, rfl, hj, OW, HB⟩ := hrel
    by_cases hlt : j < l.length
    · have hd : decide ((j : Int) < (l.length : Int)) = true := by simp; omega
      obtain ⟨g, o, hA, hg, hc⟩ := (HL.out.below HB.out).at (encKI_len .u64) hlt
      obtain ⟨x, hx⟩ : ∃ x, l[j]'hlt = x := ⟨_, rfl⟩
      rw [hx] at hc
      subst hA
      have HX := Lib.hid hc
      have HTS := Lib.hid (show l.take j ++ [x] = l.take (j + 1) by rw [List.take_succ_eq_append_getElem hlt, hx])
      have HLL := Lib.hid (show (l.take j).length ≤ 1000 by rw [List.length_take]; omega)
      have hi0 : (0 : Int) ≤ (j : Int) := by omega
      have hi1 : (j : Int) < (l.length : Int) := by omega
      clear hx hc hg
      go_wp2_with (first
        | ((with_reducible refine at_load 15 ?_); refine tyIt.wpList_load rfl (.tmp 15) rfl g (o + j * 33) rfl x HX.out ?_)
        | ((with_reducible refine at_buildSlice 17 ?_); refine tyIr.wpList_build rfl zsIr 1 _ rfl [x] rfl (by omega) (by omega) (by kernel_rfl) ?_)
        | ((with_reducible refine at_appendg 18 12 17 ?_); refine tyIr.wpList_append1 rfl zcIr 40 zbIr (by omega) (.tmp 12) (.tmp 17) rfl w.heap.size _ (l.take j) rfl (OW.out.alloc _) _ 1 x rfl (Blk.new _ _ _) (by have := HLL.out; omega) (by have := HB.out.size; simp; omega) ?_; intro v5 w5 p5 g5
           have OW5 := Lib.hid (iown_congr p5 HTS.out)
           have B5 := Lib.hid ((HB.out.alloc HB.out.size _).trans (iown_grown (OW.out.alloc _) g5 (by have := HB.out.size; simp; omega)))
           clear p5 g5))
      go_roundw
      case rel => exact ⟨j + 1, by go_num, by omega, OW5, B5⟩
      case measure => simp [intOf]; omega
    · have hd : decide ((j : Int) < (l.length : Int)) = false := by simp; omega
      have OWA := iown_congr OW.out (show l.take j = l from List.take_of_length_le (by omega))
      obtain ⟨A5, c5, hv5, r5⟩ := RowIn.of_own (encKI_len .u64) OWA
      have R5 := Lib.hid r5
      subst hv5
      clear OWA r5
      go_wp2_with fail
      go_ret
      exact ⟨A5, c5, rfl, R5.out, HB.out⟩
set_option maxRecDepth 20000 in
set_option maxHeartbeats 2000000 in
theorem rHas_w (A : Option Addr) (c : Nat) (l : List ItV) (id : K32) (now : IntV .u64) (w : World) (hl : RowIn (encKI .u64) 33 w w.heap.size A c l) (hn : l.length ≤ 1000000) :
    Calls Try.prog 13 #[.slice A l.length c, .agg (encK id).toArray, .int .u64 now.1] w fun e w' => e = .returned (.bool (hasI l id now.1)) ∧ Below w.heap.size w w' := by
  obtain ⟨r, hr⟩ : ∃ r, hasI l id now.1 = r := ⟨_, rfl⟩
  rw [hr]
  have B0 := Lib.hid (show Below w.heap.size w (w.alloc (.cells (encK id).toArray 24)) ∧ Blk (w.alloc (.cells (encK id).toArray 24)) w.heap.size 24 (encK id).toArray from ⟨(Below.refl _ _).alloc (Nat.le_refl _) _, Blk.new w 24 _⟩)
  have HL := Lib.hid hl
  have R0 := Lib.hid (show ((l.drop 0).any fun x => decide (x.1 = id) && youngF x now.1) = r from hr)
  clear hr hl
  go_enter Try.func13, Try.ntmps13
  go_wp2_with fail
  go_loopw [7] (fun si wr => ∃ j : Nat, si = .int .i64 j ∧ j ≤ l.length ∧ Hid (((l.drop j).any fun x => decide (x.1 = id) && youngF x now.1) = r) ∧ Hid (Below w.heap.size w wr ∧ Blk wr w.heap.size 24 (encK id).toArray)) (fun si _ => l.length - (intOf si).toNat)
  case atStart => exact ⟨0, rfl, Nat.zero_le _, R0, B0⟩
  case round =>
    clear R0 B0
    obtain ⟨j, rfl, hj, HR, HB⟩ := hrel
    by_cases hlt : j < l.length
    · have hd : decide ((j : Int) < (l.length : Int)) = true := by simp; omega
      have hi0 : (0 : Int) ≤ (j : Int) := by omega
      have hi1 : (j : Int) < (l.length : Int) := by omega
      obtain ⟨g, o, hA, hg, hc⟩ := (HL.out.below HB.out.1).at (encKI_len .u64) hlt
      obtain ⟨x, hx⟩ : ∃ x, l[j]'hlt = x := ⟨_, rfl⟩
      rw [hx] at hc
      subst hA
      have HDR := Lib.hid (show l.drop j = x :: l.drop (j + 1) by rw [List.drop_eq_getElem_cons hlt, hx])
      have hg2 := Nat.lt_of_lt_of_le hg HB.out.1.size
      have D1 := Lib.hid (show ∀ W, From wr W → RowC W g (o + j * 33) ((encKI .u64) x) from fun W hC => hc.below hC.below hg2)
      have D2 := Lib.hid (show ∀ W, From wr W → RowC W w.heap.size 0 (encK id) from fun W hC => RowC.of_blk (below_blk hC.below HB.out.2 HB.out.2.lt))
      have HJ := Lib.hid (show j + 1 ≤ l.length from hlt)
      clear hx hc hg hg2 hlt
      obtain ⟨q, hq⟩ : ∃ q, decide (x.1 = id) = q := ⟨_, rfl⟩
      obtain ⟨p, hp⟩ : ∃ p, youngF x now.1 = p := ⟨_, rfl⟩
      have D3 := Lib.hid (show ∀ W, From wr W → Calls Try.prog 22 #[.agg ((encKI .u64) x).toArray, .int .u64 now.1] W fun e w' => e = .returned (.bool p) ∧ Below W.heap.size W w' from fun W _ => hp ▸ rYoung_w x now W)
      have HQ := Lib.hid hq
      cases q with
      | false =>
        have HM := Lib.hid (show (decide (x.1 = id) && youngF x now.1) = false by rw [hq]; rfl)
        clear hq hp
        go_wp2_with fail
        refine wp_region_from (by kernel_rfl) (by kernel_rfl) ?_
        repeat (first
          | go_big_quiet_skip
          | ((with_reducible refine at_qload 17 ?_); refine tyKc.wpQuiet_load (by rfl) (.tmp 17) rfl (g) (o + j * 33) rfl (x.1) (fun W hC => (D1.out W hC).ki_key) ?_; simp only [Act.put, List.setIfInBounds_toArray, List.set_cons_succ, List.set_cons_zero])
          | ((with_reducible refine at_qload 4 ?_); refine tyKc.wpQuiet_load (by rfl) (.tmp 4) rfl (w.heap.size) (0) rfl (id) (fun W hC => D2.out W hC) ?_; simp only [Act.put, List.setIfInBounds_toArray, List.set_cons_succ, List.set_cons_zero])
          | ((with_reducible refine at_qeql 18 19 ?_); refine wpQuiet_eql_row (by rfl) 24 24 (.tmp 18) (.tmp 19) rfl (encK x.1).toArray (encK id).toArray rfl rfl (by kernel_rfl) false (fun V => (eqKy_run _ _ V).trans (by rw [HQ.out])) ?_; simp only [Act.put, List.setIfInBounds_toArray, List.set_cons_succ, List.set_cons_zero])
          | ((with_reducible refine at_qload 24 ?_); refine tyIrc.wpQuiet_load (by rfl) (.tmp 24) rfl (g) (o + j * 33) rfl (x) (fun W hC => D1.out W hC) ?_; simp only [Act.put, List.setIfInBounds_toArray, List.set_cons_succ, List.set_cons_zero])
          | (go_big_quiet_want; go_big_quiet_op; refine ⟨_, fun _ _ => by with_reducible rfl, ?_⟩; go_big_quiet_on)
          | go_big_quiet_step ((intro hC; first
              | (go_at_call 22; with_reducible exact (D3.out _ hC).mono fun _ _ h => ⟨h.1, hC.call h.2⟩))))
        refine wpQuiet_nil ?_
        intro w9 hC
        have B9 := Lib.hid (HB.out.1.trans (hC.below.mono HB.out.1.size))
        have K9 := Lib.hid (below_blk hC.below HB.out.2 HB.out.2.lt)
        clear hC D1 D2 D3 HB
        go_wp2_with fail
        go_roundw
        case rel => exact ⟨j + 1, by go_num, HJ.out, Lib.hid (by rw [← HR.out, HDR.out, List.any_cons, HM.out]; rfl), Lib.hid ⟨B9.out, K9.out⟩⟩
        case measure => have := HJ.out; simp [intOf]; omega
      | true =>
        cases p with
        | false =>
          have HM := Lib.hid (show (decide (x.1 = id) && youngF x now.1) = false by rw [hq, hp]; rfl)
          clear hq hp
          go_wp2_with fail
          refine wp_region_from (by kernel_rfl) (by kernel_rfl) ?_
          repeat (first
            | go_big_quiet_skip
            | ((with_reducible refine at_qload 17 ?_); refine tyKc.wpQuiet_load (by rfl) (.tmp 17) rfl (g) (o + j * 33) rfl (x.1) (fun W hC => (D1.out W hC).ki_key) ?_; simp only [Act.put, List.setIfInBounds_toArray, List.set_cons_succ, List.set_cons_zero])
            | ((with_reducible refine at_qload 4 ?_); refine tyKc.wpQuiet_load (by rfl) (.tmp 4) rfl (w.heap.size) (0) rfl (id) (fun W hC => D2.out W hC) ?_; simp only [Act.put, List.setIfInBounds_toArray, List.set_cons_succ, List.set_cons_zero])
            | ((with_reducible refine at_qeql 18 19 ?_); refine wpQuiet_eql_row (by rfl) 24 24 (.tmp 18) (.tmp 19) rfl (encK x.1).toArray (encK id).toArray rfl rfl (by kernel_rfl) true (fun V => (eqKy_run _ _ V).trans (by rw [HQ.out])) ?_; simp only [Act.put, List.setIfInBounds_toArray, List.set_cons_succ, List.set_cons_zero])
            | ((with_reducible refine at_qload 24 ?_); refine tyIrc.wpQuiet_load (by rfl) (.tmp 24) rfl (g) (o + j * 33) rfl (x) (fun W hC => D1.out W hC) ?_; simp only [Act.put, List.setIfInBounds_toArray, List.set_cons_succ, List.set_cons_zero])
            | (go_big_quiet_want; go_big_quiet_op; refine ⟨_, fun _ _ => by with_reducible rfl, ?_⟩; go_big_quiet_on)
            | go_big_quiet_step ((intro hC; first
                | (go_at_call 22; with_reducible exact (D3.out _ hC).mono fun _ _ h => ⟨h.1, hC.call h.2⟩))))
          refine wpQuiet_nil ?_
          intro w9 hC
          have B9 := Lib.hid (HB.out.1.trans (hC.below.mono HB.out.1.size))
          have K9 := Lib.hid (below_blk hC.below HB.out.2 HB.out.2.lt)
          clear hC D1 D2 D3 HB
          go_wp2_with fail
          go_roundw
          case rel => exact ⟨j + 1, by go_num, HJ.out, Lib.hid (by rw [← HR.out, HDR.out, List.any_cons, HM.out]; rfl), Lib.hid ⟨B9.out, K9.out⟩⟩
          case measure => have := HJ.out; simp [intOf]; omega
        | true =>
          have HX := Lib.hid (show r = true by rw [← HR.out, HDR.out, List.any_cons, hq, hp]; rfl)
          clear hq hp
          go_wp2_with fail
          refine wp_region_from (by kernel_rfl) (by kernel_rfl) ?_
          repeat (first
            | go_big_quiet_skip
            | ((with_reducible refine at_qload 17 ?_); refine tyKc.wpQuiet_load (by rfl) (.tmp 17) rfl (g) (o + j * 33) rfl (x.1) (fun W hC => (D1.out W hC).ki_key) ?_; simp only [Act.put, List.setIfInBounds_toArray, List.set_cons_succ, List.set_cons_zero])
            | ((with_reducible refine at_qload 4 ?_); refine tyKc.wpQuiet_load (by rfl) (.tmp 4) rfl (w.heap.size) (0) rfl (id) (fun W hC => D2.out W hC) ?_; simp only [Act.put, List.setIfInBounds_toArray, List.set_cons_succ, List.set_cons_zero])
            | ((with_reducible refine at_qeql 18 19 ?_); refine wpQuiet_eql_row (by rfl) 24 24 (.tmp 18) (.tmp 19) rfl (encK x.1).toArray (encK id).toArray rfl rfl (by kernel_rfl) true (fun V => (eqKy_run _ _ V).trans (by rw [HQ.out])) ?_; simp only [Act.put, List.setIfInBounds_toArray, List.set_cons_succ, List.set_cons_zero])
            | ((with_reducible refine at_qload 24 ?_); refine tyIrc.wpQuiet_load (by rfl) (.tmp 24) rfl (g) (o + j * 33) rfl (x) (fun W hC => D1.out W hC) ?_; simp only [Act.put, List.setIfInBounds_toArray, List.set_cons_succ, List.set_cons_zero])
            | (go_big_quiet_want; go_big_quiet_op; refine ⟨_, fun _ _ => by with_reducible rfl, ?_⟩; go_big_quiet_on)
            | go_big_quiet_step ((intro hC; first
                | (go_at_call 22; with_reducible exact (D3.out _ hC).mono fun _ _ h => ⟨h.1, hC.call h.2⟩))))
          refine wpQuiet_nil ?_
          intro w9 hC
          have B9 := Lib.hid (HB.out.1.trans (hC.below.mono HB.out.1.size))
          clear hC D1 D2 D3 HB
          go_wp2_with fail
          go_ret
          exact ⟨by rw [HX.out]; rfl, B9.out⟩
    · have hd : decide ((j : Int) < (l.length : Int)) = false := by simp; omega
      have HX := Lib.hid (show r = false by rw [← HR.out, List.drop_of_length_le (by omega)]; rfl)
      obtain rfl : j = l.length := by omega
      go_wp2_with fail
      go_ret
      exact ⟨by rw [HX.out]; rfl, HB.out.1⟩
theorem filter_next {α : Type} (p : α → Bool) (l : List α) (j : Nat) (hj : j < l.length) : (l.take (j + 1)).filter p = (l.take j).filter p ++ (if p l[j] = true then [l[j]] else []) := by
  rw [List.take_succ_eq_append_getElem hj, List.filter_append]
  congr 1
  by_cases h : p l[j] = true
  · rw [if_pos h, List.filter_cons_of_pos h]; rfl
  · rw [if_neg h, List.filter_cons_of_neg h]; rfl
set_option maxRecDepth 20000 in
set_option maxHeartbeats 2000000 in
theorem rOld_w (A : Option Addr) (c : Nat) (l : List ItV) (now : IntV .u64) (w : World) (hl : RowIn (encKI .u64) 33 w w.heap.size A c l) (hn : l.length ≤ 100000) :
    Calls Try.prog 15 #[.slice A l.length c, .int .u64 now.1] w fun e w' => ∃ A' c', e = .returned (.slice A' (oldI l now.1).length c') ∧ RowIn (encKI .u64) 33 w' w'.heap.size A' c' (oldI l now.1) ∧ Below w.heap.size w w' := by
  have B0 := Lib.hid (show Below w.heap.size w (w.alloc (.cells #[] 43)) from (Below.refl _ _).alloc (Nat.le_refl _) _)
  have O0 := Lib.hid (show World.ownsRow (w.alloc (.cells #[] 43)) w.heap.size 43 33 (.slice (some ⟨w.heap.size, 0, none⟩) 0 0) ((l.take 0).filter fun x => youngF x now.1).length (cellsOf (encKI .u64) ((l.take 0).filter fun x => youngF x now.1)) from iown_nil (Blk.new w 43 #[]) (Nat.le_refl _))
  have HL := Lib.hid hl
  have HN := Lib.hid hn
  obtain ⟨R, hR⟩ : ∃ R, oldI l now.1 = R := ⟨_, rfl⟩
  rw [hR]
  have HR := Lib.hid hR
  clear hl hR
  go_enter Try.func15, Try.ntmps15
  go_wp2_with fail
  go_loopw [5, 6] (fun so si wr => ∃ j : Nat, si = .int .i64 j ∧ j ≤ l.length ∧ Hid (wr.ownsRow w.heap.size 43 33 so ((l.take j).filter fun x => youngF x now.1).length (cellsOf (encKI .u64) ((l.take j).filter fun x => youngF x now.1))) ∧ Hid (Below w.heap.size w wr)) (fun _ si _ => l.length - (intOf si).toNat)
  case atStart => exact ⟨0, rfl, Nat.zero_le _, O0, B0⟩
  case round =>
    clear O0 B0
    obtain ⟨j, rfl, hj, HO, HB⟩ := hrel
    by_cases hlt : j < l.length
    · have hd : decide ((j : Int) < (l.length : Int)) = true := by simp; omega
      have hi0 : (0 : Int) ≤ (j : Int) := by omega
      have hi1 : (j : Int) < (l.length : Int) := by omega
      obtain ⟨g, o, hA, hg, hc⟩ := (HL.out.below HB.out).at (encKI_len .u64) hlt
      have HF := filter_next (fun x : ItV => youngF x now.1) l j hlt
      obtain ⟨x, hx⟩ : ∃ x, l[j]'hlt = x := ⟨_, rfl⟩
      rw [hx] at hc HF
      subst hA
      have D1 := Lib.hid hc
      have HG := Lib.hid (Nat.lt_of_lt_of_le hg HB.out.size)
      have HJ := Lib.hid (show j + 1 ≤ l.length from hlt)
      have HLE := Lib.hid (show ((l.take j).filter fun x => youngF x now.1).length ≤ 100000 from Nat.le_trans (List.length_filter_le _ _) (by rw [List.length_take]; have := HN.out; omega))
      obtain ⟨p, hp⟩ : ∃ p, youngF x now.1 = p := ⟨_, rfl⟩
      simp only [hp] at HF
      have HY := Lib.hid (show Calls Try.prog 22 #[.agg ((encKI .u64) x).toArray, .int .u64 now.1] wr fun e w' => e = .returned (.bool p) ∧ Below wr.heap.size wr w' from hp ▸ rYoung_w x now wr)
      have HFH := Lib.hid HF
      clear hx hc hg hlt hp HF
      go_wp2_with ((with_reducible refine at_load 16 ?_); refine tyIrc.wpList_load rfl (.tmp 16) rfl g (o + j * 33) rfl x D1.out ?_)
      refine HY.out.mono ?_
      rintro e w3 ⟨rfl, b3⟩
      have B3 := Lib.hid (HB.out.trans (b3.mono HB.out.size))
      have O3 := Lib.hid (show w3.ownsRow w.heap.size 43 33 u5 ((l.take j).filter fun x => youngF x now.1).length (cellsOf (encKI .u64) ((l.take j).filter fun x => youngF x now.1)) from iown_below HO.out b3)
      have D3 := Lib.hid (D1.out.below b3 HG.out)
      clear b3 HB HO D1 HG HY
      cases p with
      | false =>
        have HF2 := Lib.hid (show ((l.take j).filter fun x => youngF x now.1) = (l.take (j + 1)).filter fun x => youngF x now.1 by have := HFH.out; simpa using this.symm)
        go_wp2_with fail
        go_roundw
        case rel => exact ⟨j + 1, by go_num, HJ.out, Lib.hid (iown_congr O3.out HF2.out), B3⟩
        case measure => have := HJ.out; simp [intOf]; omega
      | true =>
        have HF2 := Lib.hid (show ((l.take j).filter fun x => youngF x now.1) ++ [x] = (l.take (j + 1)).filter fun x => youngF x now.1 by have := HFH.out; simpa using this.symm)
        go_wp2_with (first
          | ((with_reducible refine at_load 23 ?_); refine tyIrc.wpList_load rfl (.tmp 23) rfl g (o + j * 33) rfl x D3.out ?_)
          | ((with_reducible refine at_buildSlice 25 ?_); refine tyIr.wpList_build rfl zsIr 1 _ rfl [x] rfl (by omega) (by omega) (by kernel_rfl) ?_)
          | ((with_reducible refine at_appendg 26 20 25 ?_); refine tyIr.wpList_append1 rfl zcIr 40 zbIr (by omega) (.tmp 20) (.tmp 25) rfl w.heap.size _ ((l.take j).filter fun x => youngF x now.1) rfl (O3.out.alloc _) _ 1 x rfl (Blk.new _ _ _) (Nat.le_trans HLE.out (by decide)) (by have := B3.out.size; simp; omega) ?_; intro v5 w5 p5 g5
             have O5 := Lib.hid (iown_congr p5 HF2.out)
             have B5 := Lib.hid ((B3.out.alloc B3.out.size _).trans (iown_grown (O3.out.alloc _) g5 (by have := B3.out.size; simp; omega)))
             clear p5 g5))
        go_roundw
        case rel => exact ⟨j + 1, by go_num, HJ.out, O5, B5⟩
        case measure => have := HJ.out; simp [intOf]; omega
    · have hd : decide ((j : Int) < (l.length : Int)) = false := by simp; omega
      have OWA := iown_congr HO.out (show ((l.take j).filter fun x => youngF x now.1) = R by rw [List.take_of_length_le (by omega)]; exact HR.out)
      obtain ⟨A5, c5, hv5, r5⟩ := RowIn.of_own (encKI_len .u64) OWA
      have R5 := Lib.hid r5
      subst hv5
      clear OWA r5
      obtain rfl : j = l.length := by omega
      go_wp2_with fail
      go_ret
      exact ⟨A5, c5, rfl, R5.out, HB.out⟩
end Go.Proofs.Ytiboelfakajohaa
