import Derived.Lib.LaidTab
import Derived.Stop.LaidErr
import Derived.Test.YtnpmpeoojncjhaaGreatDoorCards
import Derived.Test.YtnpmpeoojncjhaaGreatDoorTie
import Derived.Test.YtnpmpeoojncjhaaGreatDoorZQg
set_option maxRecDepth 100000
set_option maxHeartbeats 16000000
namespace Go.Proofs.YtnpmpeoojncjhaaGreatDoor
section
open Go.RowKit
theorem Mm (l : List aS) (x : aS) (h : l.length < 4294967295) (h1 : l.length < 4294967296) (h2 : (l ++ [x]).length < 4294967296) : nT (LU l h1) x = (LU (l ++ [x]) h2, 0) := by
 have ha := TT fC ai l x h
 unfold V4 at ha
 rw [show (Ei fC ai l).count = l.length from rfl, if_neg (by omega)] at ha
 injection ha with ha1 _
 unfold nT
 rw [dif_neg (show (LU l h1).c ≠ 4294967295 by show l.length ≠ _; omega)]
 congr 1
 exact fD.ext' ha1
theorem Dy : ∀ (m l : List aS) (h1 : l.length < 4294967296) (h2 : (l ++ m).length < 4294967296), (l ++ m).length < 4294967295 → allT (LU l h1) m = (LU (l ++ m) h2, 0)
 | [], l, h1, h2, _ => by
  unfold allT
  congr 1
  refine fD.ext' ?_
  rw [Ej, Ej, List.append_nil]
 | x :: m, l, h1, h2, h => by
  have h3 : (l ++ [x]).length < 4294967296 := by simp at h ⊢; omega
  unfold allT
  rw [Mm l x (by simp at h; omega) h1 h3]
  show (if (0 : Int) = 0 then _ else _) = _
  rw [if_pos rfl]
  have h4 : ((l ++ [x]) ++ m).length < 4294967296 := by rw [List.append_assoc]; exact h2
  rw [Dy m (l ++ [x]) h3 h4 (by rw [List.append_assoc]; exact h)]
  congr 1
  refine fD.ext' ?_
  rw [Ej, Ej, List.append_assoc]
  rfl
theorem own_ne {w : World} {base : Nat} {e t : TypeId} {k n g : Nat} {v : Value} {xs : List Value} {cs : Array Value} (h : w.ownsRow base e k v n xs) (hb : ax w g t cs) (hne : e ≠ t) : some g ≠ v.ownBlock := by
 rcases h.2 with ⟨rfl, _⟩ | ⟨q, cap, cur, rfl, hg, hh, _⟩
 ·intro e; cases e
 ·intro e1
  have e2 : g = q := Option.some.inj e1
  subst e2
  unfold ax at hb
  rw [hh] at hb
  injection (Option.some.inj hb) with _ e3 _
  exact hne e3
theorem Tf (k r : aS) : EE [k, r] k = true := by
 unfold EE
 rw [AB (by simp)]
 simp
theorem Te (k r : aS) : EE [k, r] r = true := by
 unfold EE
 rw [AB (by simp)]
 simp
theorem F9 (A : Option Addr) (c : Nat) (l : List aS) (B : Option Addr) (d : Nat) (m : List aS) (w : World) (_ : aK ak 32 w w.heap.size A c l) (_ : aK ak 32 w w.heap.size B d m) (hR : aM w) (hx : 30 < l.length) : Calls Tryz.prog 3 #[.slice A l.length c, .slice B m.length d] w fun e w' => e = .returned (.bool true) ∧ Below w.heap.size w w' := by
 have SH := qh (xL w hR)
 have hd : decide ((30 : Int) < (l.length : Int)) = true := by simp; omega
 clear hx
 clear hR
 go_enter Tryz.func3, Tryz.ntmps3
 go_wp2_with fail
 refine SH.out.mono ?_
 rintro e w1 ⟨rfl, b1⟩
 go_wp2_with fail
 go_ret
 exact ⟨rfl, b1⟩
theorem F8 (A : Option Addr) (c : Nat) (l : List aS) (B : Option Addr) (d : Nat) (m : List aS) (w : World) (_ : aK ak 32 w w.heap.size A c l) (_ : aK ak 32 w w.heap.size B d m) (hR : aM w) (hx : ¬ 30 < l.length) (hy : 30 < m.length) : Calls Tryz.prog 3 #[.slice A l.length c, .slice B m.length d] w fun e w' => e = .returned (.bool true) ∧ Below w.heap.size w w' := by
 have SH := qh (xL w hR)
 have hd : decide ((30 : Int) < (l.length : Int)) = false := by simp; omega
 have he : decide ((30 : Int) < (m.length : Int)) = true := by simp; omega
 clear hx hy
 clear hR
 go_enter Tryz.func3, Tryz.ntmps3
 go_wp2_with fail
 refine SH.out.mono ?_
 rintro e w1 ⟨rfl, b1⟩
 go_wp2_with fail
 go_ret
 exact ⟨rfl, b1⟩
theorem F7 (A : Option Addr) (c : Nat) (l : List aS) (B : Option Addr) (d : Nat) (m : List aS) (w : World) (hl : aK ak 32 w w.heap.size A c l) (hm : aK ak 32 w w.heap.size B d m) (hR : aM w) (hx : ¬ 30 < l.length) (hy : ¬ 30 < m.length) : Calls Tryz.prog 3 #[.slice A l.length c, .slice B m.length d] w fun e w' => e = .returned (.bool true) ∧ Below w.heap.size w w' := by
 have hd : decide ((30 : Int) < (l.length : Int)) = false := by simp; omega
 have he : decide ((30 : Int) < (m.length : Int)) = false := by simp; omega
 have h1 : l.length < 4294967296 := by omega
 have h2 : (l ++ m).length < 4294967296 := by rw [List.length_append]; omega
 have LL := qh (show l.length ≤ 30 ∧ m.length ≤ 30 from ⟨by omega, by omega⟩)
 obtain ⟨x, hX⟩ : ∃ x, LU l h1 = x := ⟨_, rfl⟩
 obtain ⟨y, hY⟩ : ∃ y, LU (l ++ m) h2 = y := ⟨_, rfl⟩
 obtain ⟨k1, hk1⟩ : ∃ k, qo 32 l = k := ⟨_, rfl⟩
 obtain ⟨k2, hk2⟩ : ∃ k, qo 32 (l ++ m) = k := ⟨_, rfl⟩
 have r1 : pF x 32 = k1 := by rw [← hX, ← hk1]; exact DT fC ai l h1
 have r2 : pF y 32 = k2 := by rw [← hY, ← hk2]; exact DT fC ai (l ++ m) h2
 have ha : allT x m = (y, 0) := by rw [← hX, ← hY]; exact Dy m l h1 h2 (by rw [List.length_append]; omega)
 have SH := qh (xL w hR)
 have RR := qh (show ∀ V, Below w.heap.size w V → aM V from fun _ hb => aM.below hR hb (aM.sH hR) (aM.qL hR))
 have LW := qh (show ∀ V, Below w.heap.size w V → aK ak 32 V V.heap.size A c l from fun V hb => (hl.below hb).more hb.size)
 have MW := qh (show ∀ V, Below w.heap.size w V → aK ak 32 V V.heap.size B d m from fun V hb => (hm.below hb).more hb.size)
 have XO := qh (show ∀ V, Below w.heap.size w V → Calls Tryz.prog 6 #[.slice A l.length c] V fun e w' => e = .returned (.agg x.cells.toArray) ∧ Below V.heap.size V w' from fun V hb => by
  have h := Uw A c l (by omega) V ((hl.below hb).more hb.size) (aM.below hR hb (aM.sH hR) (aM.qL hR))
  rw [hX] at h
  exact h)
 have XA := qh (show ∀ V, Below w.heap.size w V → Calls Tryz.prog 5 #[.agg x.cells.toArray, .slice B m.length d] V fun e w' => e = .returned (.tuple #[.agg y.cells.toArray, .int .i64 0]) ∧ Below V.heap.size V w' from fun V hb => by
  have h := Gu x B d m V (by omega) ((hm.below hb).more hb.size) (aM.below hR hb (aM.sH hR) (aM.qL hR))
  rw [ha] at h
  exact h)
 have X1 := qh (show ∀ V, Below w.heap.size w V → Calls Tryz.prog 9 #[.agg x.cells.toArray] V fun e w' => e = .returned (.agg (ak k1).toArray) ∧ Below V.heap.size V w' from fun V hb => by
  have h := uw x V (aM.below hR hb (aM.sH hR) (aM.qL hR))
  rw [r1] at h
  exact h)
 have X2 := qh (show ∀ V, Below w.heap.size w V → Calls Tryz.prog 9 #[.agg y.cells.toArray] V fun e w' => e = .returned (.agg (ak k2).toArray) ∧ Below V.heap.size V w' from fun V hb => by
  have h := uw y V (aM.below hR hb (aM.sH hR) (aM.qL hR))
  rw [r2] at h
  exact h)
 have T1 := qh (show ∀ V, Below w.heap.size w V → Calls Tryz.prog 10 #[.slice A l.length c, .int .i64 32] V fun e w' => e = .returned (.agg (ak k1).toArray) ∧ Below V.heap.size V w' from fun V hb => by
  have h := Us 32 (by omega) A c l V ((hl.below hb).more hb.size) (by omega)
  rw [hk1] at h
  exact h)
 have T2 := qh (show ∀ (A' : Option Addr) (c' : Nat) (V : World), aK ak 32 V V.heap.size A' c' (l ++ m) → Calls Tryz.prog 10 #[.slice A' (l ++ m).length c', .int .i64 32] V fun e w' => e = .returned (.agg (ak k2).toArray) ∧ Below V.heap.size V w' from fun A' c' V hr => by
  have h := Us 32 (by omega) A' c' (l ++ m) V hr (by rw [List.length_append]; omega)
  rw [hk2] at h
  exact h)
 have PP := qh (show ∀ (A1 : Option Addr) (c1 : Nat) (V : World), V.ownsRow w.heap.size 26 32 (.slice A1 1 c1) 1 (cellsOf ak [k1]) → Calls Tryz.prog 7 #[.agg #[.slice A1 1 c1], .agg (ak k2).toArray] V fun e w' => ∃ A' c', e = .returned (.agg #[.slice A' 2 c']) ∧ w'.ownsRow V.heap.size 26 32 (.slice A' 2 c') 2 (cellsOf ak [k1, k2]) ∧ Below V.heap.size V w' from fun A1 c1 V ho => Ns A1 c1 [k1] k2 V (by simp) (dm (l := [k1]) aC ho))
 obtain ⟨Zr, hZr, hzr, Pm, aai⟩ := bB gY jJ
 have HS := qh Pm
 clear hx hy hX hY hk1 hk2 r1 r2 ha hl hm hR h1 h2 hZr Pm
 go_enter Tryz.func3, Tryz.ntmps3
 go_wp2_with fail
 refine SH.out.mono ?_
 rintro e w1 ⟨rfl, b1⟩
 have B1 := qh b1
 clear b1 SH
 go_wp2_with fail
 refine (XO.out _ B1.out).mono ?_
 rintro e w2 ⟨rfl, b2⟩
 have B2 := qh (B1.out.trans (b2.mono B1.out.size))
 clear b2 B1
 go_wp2_with fail
 refine (XA.out _ B2.out).mono ?_
 rintro e w3 ⟨rfl, b3⟩
 have H3 := qh ((Holds.nil w).call (show Below w.heap.size w w3 from B2.out.trans (b3.mono B2.out.size)))
 clear b3 B2 XA
 go_wp2_with (first
  | ((with_reducible refine ag 5 27 ?_); refine gz.aj rfl (.tmp 5) (.tmp 27) rfl rfl w3.heap.size y rfl rfl 29 _ (ax.new w3 29 Zr) (by rw [HS.out]) ?_; intro w4 o4 b4
     have H4 := qh (show Holds w [(w3.heap.size, 29, y.cells.toArray)] w4 from H3.out.put o4 b4)
     have O4 := qh (show World.ownsRow (w4.alloc (.cells #[] 26)) w.heap.size 26 32 (.slice (some ⟨w4.heap.size, 0, none⟩) 0 0) ([] : List aS).length (cellsOf ak []) from Dj (ax.new w4 26 #[]) H4.out.below.size)
     have H5 := qh (H4.out.alloc (.cells #[] 26))
     clear o4 b4 H3 H4)
  | ((with_reducible refine lY 31 29 30 ?_); refine eH.j3 rfl TM 32 TN (by omega) (.tmp 29) (.tmp 30) rfl w.heap.size _ ([] : List aS) rfl O4.out _ A c l rfl (LW.out _ H5.out.below) (by have := LL.out; simp; omega) H5.out.below.size ?_; intro v6 w6 p6 q6
     have H6 := qh (H5.out.vP q6 (iG O4.out) (fun x hx e => by
      simp only [List.mem_cons, List.not_mem_nil, or_false] at hx
      subst hx
      exact own_ne O4.out (H5.out.b (w3.heap.size) (29) (y.cells.toArray) (by simp)) (by decide) e))
     have O6 := qh (show w6.ownsRow w.heap.size 26 32 v6 l.length (cellsOf ak l) from p6)
     clear p6 q6 H5 O4)
  | ((with_reducible refine lY 33 31 32 ?_); refine eH.j3 rfl TM 32 TN (by omega) (.tmp 31) (.tmp 32) rfl w.heap.size _ l rfl O6.out _ B d m rfl (MW.out _ H6.out.below) (by have := LL.out; omega) H6.out.below.size ?_; intro v7 w7 p7 q7
     have H7 := qh (H6.out.vP q7 (iG O6.out) (fun x hx e => by
      simp only [List.mem_cons, List.not_mem_nil, or_false] at hx
      subst hx
      exact own_ne O6.out (H6.out.b (w3.heap.size) (29) (y.cells.toArray) (by simp)) (by decide) e))
     obtain ⟨A7, c7, rfl, _⟩ := aK.fO aC p7
     have O7 := qh p7
     clear p7 q7 H6 O6))
 obtain ⟨g5, hg5⟩ : ∃ g, w3.heap.size = g := ⟨_, rfl⟩
 rw [hg5] at H7 ⊢
 clear hg5
 go_cut [8] from 34 to 41 (fun v8 wc => ∃ (g8 : Nat) (A8 : Option Addr) (c8 : Nat), v8 = .pointer (some ⟨g8, 0, none⟩) ∧ Hid (Holds w [(g8, 35, #[.slice A8 2 c8]), (g5, 29, y.cells.toArray)] wc) ∧ Hid (wc.ownsRow w.heap.size 26 32 (.slice A7 (l ++ m).length c7) (l ++ m).length (cellsOf ak (l ++ m))) ∧ Hid (wc.ownsRow w.heap.size 26 32 (.slice A8 2 c8) 2 (cellsOf ak [k1, k2])))
 case first =>
  refine wp_region_held_drew (S := Holds w [(g5, 29, y.cells.toArray)]) (by kernel_rfl) (H7.out.call (Below.refl _ _).drew) ?_
  intro hS
  have HH := qh hS
  have OA := qh (aL O7.out (Below.refl _ _).drew)
  clear H7 O7
  generalize World.drew _ = wd at hS HH OA ⊢
  refine tkp 0 (.slice A l.length c) rfl hS ?_
  go_simp
  refine tk 4 (.agg y.cells.toArray) rfl (gz.aB (by rfl) (.tmp 5) rfl g5 0 rfl y (fun _ h => au.ah (h.b (g5) (29) (y.cells.toArray) (by simp)))) hS ?_
  go_simp
  refine rd2 1 7 rfl (fun Kq hK => ?_) rfl (fun Kq hK => ?_)
  ·go_simp
   with_reducible refine (XO.out _ HH.out.below).mono ?_
   rintro e x1 ⟨rfl, bq⟩
   have HN := qh (HH.out.call bq)
   have ON := qh (aL OA.out bq)
   clear bq
   refine hK.out _ _ (HN.out.os) (fun hS => ?_)
   clear hK Kq HH OA
   have HH := HN
   have OA := ON
   clear HN ON
   go_simp
   refine rd2 2 7 rfl (fun Kq hK => ?_) rfl (fun Kq hK => ?_)
   ·go_simp
    with_reducible refine (X1.out _ HH.out.below).mono ?_
    rintro e x2 ⟨rfl, bq⟩
    have HN := qh (HH.out.call bq)
    have ON := qh (aL OA.out bq)
    clear bq
    refine hK.out _ _ (HN.out.os) (fun hS => ?_)
    clear hK Kq HH OA
    have HH := HN
    have OA := ON
    clear HN ON
    go_simp
    refine rd2 3 7 rfl (fun Kq hK => ?_) rfl (fun Kq hK => ?_)
    ·go_simp
     with_reducible refine (yz k1 _).mono ?_
     rintro e x3 ⟨A1, c1, rfl, o1, bq⟩
     have RN := qh (aW o1 HH.out.below.size)
     have HN := qh (HH.out.call bq)
     have ON := qh (aL OA.out bq)
     clear bq o1
     refine hK.out _ _ (HN.out.os) (fun hS => ?_)
     clear hK Kq HH OA
     have HH := HN
     have OA := ON
     clear HN ON
     go_simp
     refine rd2 5 7 rfl (fun Kq hK => ?_) rfl (fun Kq hK => ?_)
     ·go_simp
      with_reducible refine (X2.out _ HH.out.below).mono ?_
      rintro e x4 ⟨rfl, bq⟩
      have HN := qh (HH.out.call bq)
      have ON := qh (aL OA.out bq)
      have Br := qh (aL RN.out bq)
      clear RN
      have RN := Br
      clear Br
      clear bq
      refine hK.out _ _ (HN.out.os) (fun hS => ?_)
      clear hK Kq HH OA
      have HH := HN
      have OA := ON
      clear HN ON
      go_simp
      refine rd2 6 7 rfl (fun Kq hK => ?_) rfl (fun Kq hK => ?_)
      ·go_simp
       with_reducible refine (PP.out A1 c1 _ RN.out).mono ?_
       rintro e x5 ⟨A8, c8, rfl, o8, bq⟩
       have OP := qh (aW o8 HH.out.below.size)
       have HN := qh (HH.out.call bq)
       have ON := qh (aL OA.out bq)
       clear bq o8 RN
       refine hK.out _ _ (HN.out.os) (fun hS => ?_)
       clear hK Kq HH OA
       have HH := HN
       have OA := ON
       clear HN ON
       go_simp
       refine rd 7 rfl (fun Kq hK => ?_)
       go_simp
       have HN := qh (show Holds w ((x5.heap.size, 35, #[.slice none 0 0]) :: [(g5, 29, y.cells.toArray)]) (x5.alloc (.cells #[.slice none 0 0] 35)) from HH.out.box 35 #[.slice none 0 0])
       have ON := qh (OA.out.alloc (.cells #[.slice none 0 0] 35))
       have D9 := qh (show w.heap.size ≤ x5.heap.size ∧ g5 ≠ x5.heap.size from ⟨HH.out.below.size, Nat.ne_of_lt (HH.out.b g5 (29) (y.cells.toArray) (by simp)).lt⟩)
       have OP2 := qh (OP.out.alloc (.cells #[.slice none 0 0] 35))
       clear OP
       have OP := OP2
       clear OP2
       refine hK.out _ _ (HN.out.os) (fun hS => ?_)
       clear hK Kq HH OA
       have HH := HN
       have OA := ON
       clear HN ON
       obtain ⟨g8, hg, pO⟩ : ∃ g, x5.heap.size = g ∧ w.heap.size ≤ g ∧ g5 ≠ g := ⟨_, rfl, D9.out⟩
       obtain ⟨x6, hV⟩ : ∃ V, x5.alloc (.cells #[.slice none 0 0] 35) = V := ⟨_, rfl⟩
       rw [hV] at HH OA hS OP ⊢
       clear hV
       rw [hg] at HH ⊢
       clear hg D9
       have D8 := qh pO
       clear pO
       go_simp
       refine rd 8 rfl (fun Kq hK => ?_)
       refine rV.aH rfl (.tmp 8) (.tmp 40) rfl rfl g8 (A8, 2, c8) rfl rfl 35 _ (HH.out.b g8 (35) #[.slice none 0 0] (by simp)) rfl ?_
       intro w9 o9 b9
       have H9 := qh (show Holds w [(g8, 35, #[.slice A8 2 c8]), (g5, 29, y.cells.toArray)] w9 from (HH.out.os (L' := (g8, 35, #[.slice none 0 0]) :: [(g5, 29, y.cells.toArray)])).turn o9 b9 D8.out.1 (fun x hx => by
        simp only [List.mem_cons, List.not_mem_nil, or_false] at hx
        subst hx
        exact D8.out.2))
       have QB := qh (aI OA.out o9 (HH.out.b g8 (35) #[.slice none 0 0] (by simp)) (by decide))
       have Qz := qh (aI OP.out o9 (HH.out.b g8 (35) #[.slice none 0 0] (by simp)) (by decide))
       refine hK.out _ _ (H9.out.of (fun x hx => List.mem_cons_of_mem _ hx)) (fun hS => ?_)
       clear hK Kq
       refine wpAnyH_done (by kernel_rfl) ?_ _
       go_wp2_with fail
       go_meet
       exact ⟨g8, A8, c8, rfl, H9, QB, Qz⟩
      ·go_simp
       have HN := qh (show Holds w ((x4.heap.size, 35, #[.slice none 0 0]) :: [(g5, 29, y.cells.toArray)]) (x4.alloc (.cells #[.slice none 0 0] 35)) from HH.out.box 35 #[.slice none 0 0])
       have ON := qh (OA.out.alloc (.cells #[.slice none 0 0] 35))
       have D9 := qh (show w.heap.size ≤ x4.heap.size ∧ g5 ≠ x4.heap.size from ⟨HH.out.below.size, Nat.ne_of_lt (HH.out.b g5 (29) (y.cells.toArray) (by simp)).lt⟩)
       have Br := qh (RN.out.alloc (.cells #[.slice none 0 0] 35))
       clear RN
       have RN := Br
       clear Br
       refine hK.out _ _ (HN.out.os) (fun hS => ?_)
       clear hK Kq HH OA
       have HH := HN
       have OA := ON
       clear HN ON
       obtain ⟨g8, hg, pO⟩ : ∃ g, x4.heap.size = g ∧ w.heap.size ≤ g ∧ g5 ≠ g := ⟨_, rfl, D9.out⟩
       obtain ⟨x5, hV⟩ : ∃ V, x4.alloc (.cells #[.slice none 0 0] 35) = V := ⟨_, rfl⟩
       rw [hV] at HH OA hS RN ⊢
       clear hV
       rw [hg] at HH ⊢
       clear hg D9
       have D8 := qh pO
       clear pO
       go_simp
       refine rd 6 rfl (fun Kq hK => ?_)
       go_simp
       with_reducible refine (PP.out A1 c1 _ RN.out).mono ?_
       rintro e x6 ⟨A8, c8, rfl, o8, bq⟩
       have OP := qh (aW o8 HH.out.below.size)
       have HN := qh (HH.out.call bq)
       have ON := qh (aL OA.out bq)
       clear bq o8 RN
       refine hK.out _ _ (HN.out.os) (fun hS => ?_)
       clear hK Kq HH OA
       have HH := HN
       have OA := ON
       clear HN ON
       go_simp
       refine rd 8 rfl (fun Kq hK => ?_)
       refine rV.aH rfl (.tmp 8) (.tmp 40) rfl rfl g8 (A8, 2, c8) rfl rfl 35 _ (HH.out.b g8 (35) #[.slice none 0 0] (by simp)) rfl ?_
       intro w9 o9 b9
       have H9 := qh (show Holds w [(g8, 35, #[.slice A8 2 c8]), (g5, 29, y.cells.toArray)] w9 from (HH.out.os (L' := (g8, 35, #[.slice none 0 0]) :: [(g5, 29, y.cells.toArray)])).turn o9 b9 D8.out.1 (fun x hx => by
        simp only [List.mem_cons, List.not_mem_nil, or_false] at hx
        subst hx
        exact D8.out.2))
       have QB := qh (aI OA.out o9 (HH.out.b g8 (35) #[.slice none 0 0] (by simp)) (by decide))
       have Qz := qh (aI OP.out o9 (HH.out.b g8 (35) #[.slice none 0 0] (by simp)) (by decide))
       refine hK.out _ _ (H9.out.of (fun x hx => List.mem_cons_of_mem _ hx)) (fun hS => ?_)
       clear hK Kq
       refine wpAnyH_done (by kernel_rfl) ?_ _
       go_wp2_with fail
       go_meet
       exact ⟨g8, A8, c8, rfl, H9, QB, Qz⟩
     ·go_simp
      have HN := qh (show Holds w ((x3.heap.size, 35, #[.slice none 0 0]) :: [(g5, 29, y.cells.toArray)]) (x3.alloc (.cells #[.slice none 0 0] 35)) from HH.out.box 35 #[.slice none 0 0])
      have ON := qh (OA.out.alloc (.cells #[.slice none 0 0] 35))
      have D9 := qh (show w.heap.size ≤ x3.heap.size ∧ g5 ≠ x3.heap.size from ⟨HH.out.below.size, Nat.ne_of_lt (HH.out.b g5 (29) (y.cells.toArray) (by simp)).lt⟩)
      have Br := qh (RN.out.alloc (.cells #[.slice none 0 0] 35))
      clear RN
      have RN := Br
      clear Br
      refine hK.out _ _ (HN.out.os) (fun hS => ?_)
      clear hK Kq HH OA
      have HH := HN
      have OA := ON
      clear HN ON
      obtain ⟨g8, hg, pO⟩ : ∃ g, x3.heap.size = g ∧ w.heap.size ≤ g ∧ g5 ≠ g := ⟨_, rfl, D9.out⟩
      obtain ⟨x4, hV⟩ : ∃ V, x3.alloc (.cells #[.slice none 0 0] 35) = V := ⟨_, rfl⟩
      rw [hV] at HH OA hS RN ⊢
      clear hV
      rw [hg] at HH ⊢
      clear hg D9
      have D8 := qh pO
      clear pO
      go_simp
      refine rd 5 rfl (fun Kq hK => ?_)
      go_simp
      with_reducible refine (X2.out _ HH.out.below).mono ?_
      rintro e x5 ⟨rfl, bq⟩
      have HN := qh (HH.out.call bq)
      have ON := qh (aL OA.out bq)
      have Br := qh (aL RN.out bq)
      clear RN
      have RN := Br
      clear Br
      clear bq
      refine hK.out _ _ (HN.out.os) (fun hS => ?_)
      clear hK Kq HH OA
      have HH := HN
      have OA := ON
      clear HN ON
      go_simp
      refine rd 6 rfl (fun Kq hK => ?_)
      go_simp
      with_reducible refine (PP.out A1 c1 _ RN.out).mono ?_
      rintro e x6 ⟨A8, c8, rfl, o8, bq⟩
      have OP := qh (aW o8 HH.out.below.size)
      have HN := qh (HH.out.call bq)
      have ON := qh (aL OA.out bq)
      clear bq o8 RN
      refine hK.out _ _ (HN.out.os) (fun hS => ?_)
      clear hK Kq HH OA
      have HH := HN
      have OA := ON
      clear HN ON
      go_simp
      refine rd 8 rfl (fun Kq hK => ?_)
      refine rV.aH rfl (.tmp 8) (.tmp 40) rfl rfl g8 (A8, 2, c8) rfl rfl 35 _ (HH.out.b g8 (35) #[.slice none 0 0] (by simp)) rfl ?_
      intro w9 o9 b9
      have H9 := qh (show Holds w [(g8, 35, #[.slice A8 2 c8]), (g5, 29, y.cells.toArray)] w9 from (HH.out.os (L' := (g8, 35, #[.slice none 0 0]) :: [(g5, 29, y.cells.toArray)])).turn o9 b9 D8.out.1 (fun x hx => by
       simp only [List.mem_cons, List.not_mem_nil, or_false] at hx
       subst hx
       exact D8.out.2))
      have QB := qh (aI OA.out o9 (HH.out.b g8 (35) #[.slice none 0 0] (by simp)) (by decide))
      have Qz := qh (aI OP.out o9 (HH.out.b g8 (35) #[.slice none 0 0] (by simp)) (by decide))
      refine hK.out _ _ (H9.out.of (fun x hx => List.mem_cons_of_mem _ hx)) (fun hS => ?_)
      clear hK Kq
      refine wpAnyH_done (by kernel_rfl) ?_ _
      go_wp2_with fail
      go_meet
      exact ⟨g8, A8, c8, rfl, H9, QB, Qz⟩
    ·go_simp
     have HN := qh (show Holds w ((x2.heap.size, 35, #[.slice none 0 0]) :: [(g5, 29, y.cells.toArray)]) (x2.alloc (.cells #[.slice none 0 0] 35)) from HH.out.box 35 #[.slice none 0 0])
     have ON := qh (OA.out.alloc (.cells #[.slice none 0 0] 35))
     have D9 := qh (show w.heap.size ≤ x2.heap.size ∧ g5 ≠ x2.heap.size from ⟨HH.out.below.size, Nat.ne_of_lt (HH.out.b g5 (29) (y.cells.toArray) (by simp)).lt⟩)
     refine hK.out _ _ (HN.out.os) (fun hS => ?_)
     clear hK Kq HH OA
     have HH := HN
     have OA := ON
     clear HN ON
     obtain ⟨g8, hg, pO⟩ : ∃ g, x2.heap.size = g ∧ w.heap.size ≤ g ∧ g5 ≠ g := ⟨_, rfl, D9.out⟩
     obtain ⟨x3, hV⟩ : ∃ V, x2.alloc (.cells #[.slice none 0 0] 35) = V := ⟨_, rfl⟩
     rw [hV] at HH OA hS ⊢
     clear hV
     rw [hg] at HH ⊢
     clear hg D9
     have D8 := qh pO
     clear pO
     go_simp
     refine rd 3 rfl (fun Kq hK => ?_)
     go_simp
     with_reducible refine (yz k1 _).mono ?_
     rintro e x4 ⟨A1, c1, rfl, o1, bq⟩
     have RN := qh (aW o1 HH.out.below.size)
     have HN := qh (HH.out.call bq)
     have ON := qh (aL OA.out bq)
     clear bq o1
     refine hK.out _ _ (HN.out.os) (fun hS => ?_)
     clear hK Kq HH OA
     have HH := HN
     have OA := ON
     clear HN ON
     go_simp
     refine rd 5 rfl (fun Kq hK => ?_)
     go_simp
     with_reducible refine (X2.out _ HH.out.below).mono ?_
     rintro e x5 ⟨rfl, bq⟩
     have HN := qh (HH.out.call bq)
     have ON := qh (aL OA.out bq)
     have Br := qh (aL RN.out bq)
     clear RN
     have RN := Br
     clear Br
     clear bq
     refine hK.out _ _ (HN.out.os) (fun hS => ?_)
     clear hK Kq HH OA
     have HH := HN
     have OA := ON
     clear HN ON
     go_simp
     refine rd 6 rfl (fun Kq hK => ?_)
     go_simp
     with_reducible refine (PP.out A1 c1 _ RN.out).mono ?_
     rintro e x6 ⟨A8, c8, rfl, o8, bq⟩
     have OP := qh (aW o8 HH.out.below.size)
     have HN := qh (HH.out.call bq)
     have ON := qh (aL OA.out bq)
     clear bq o8 RN
     refine hK.out _ _ (HN.out.os) (fun hS => ?_)
     clear hK Kq HH OA
     have HH := HN
     have OA := ON
     clear HN ON
     go_simp
     refine rd 8 rfl (fun Kq hK => ?_)
     refine rV.aH rfl (.tmp 8) (.tmp 40) rfl rfl g8 (A8, 2, c8) rfl rfl 35 _ (HH.out.b g8 (35) #[.slice none 0 0] (by simp)) rfl ?_
     intro w9 o9 b9
     have H9 := qh (show Holds w [(g8, 35, #[.slice A8 2 c8]), (g5, 29, y.cells.toArray)] w9 from (HH.out.os (L' := (g8, 35, #[.slice none 0 0]) :: [(g5, 29, y.cells.toArray)])).turn o9 b9 D8.out.1 (fun x hx => by
      simp only [List.mem_cons, List.not_mem_nil, or_false] at hx
      subst hx
      exact D8.out.2))
     have QB := qh (aI OA.out o9 (HH.out.b g8 (35) #[.slice none 0 0] (by simp)) (by decide))
     have Qz := qh (aI OP.out o9 (HH.out.b g8 (35) #[.slice none 0 0] (by simp)) (by decide))
     refine hK.out _ _ (H9.out.of (fun x hx => List.mem_cons_of_mem _ hx)) (fun hS => ?_)
     clear hK Kq
     refine wpAnyH_done (by kernel_rfl) ?_ _
     go_wp2_with fail
     go_meet
     exact ⟨g8, A8, c8, rfl, H9, QB, Qz⟩
   ·go_simp
    have HN := qh (show Holds w ((x1.heap.size, 35, #[.slice none 0 0]) :: [(g5, 29, y.cells.toArray)]) (x1.alloc (.cells #[.slice none 0 0] 35)) from HH.out.box 35 #[.slice none 0 0])
    have ON := qh (OA.out.alloc (.cells #[.slice none 0 0] 35))
    have D9 := qh (show w.heap.size ≤ x1.heap.size ∧ g5 ≠ x1.heap.size from ⟨HH.out.below.size, Nat.ne_of_lt (HH.out.b g5 (29) (y.cells.toArray) (by simp)).lt⟩)
    refine hK.out _ _ (HN.out.os) (fun hS => ?_)
    clear hK Kq HH OA
    have HH := HN
    have OA := ON
    clear HN ON
    obtain ⟨g8, hg, pO⟩ : ∃ g, x1.heap.size = g ∧ w.heap.size ≤ g ∧ g5 ≠ g := ⟨_, rfl, D9.out⟩
    obtain ⟨x2, hV⟩ : ∃ V, x1.alloc (.cells #[.slice none 0 0] 35) = V := ⟨_, rfl⟩
    rw [hV] at HH OA hS ⊢
    clear hV
    rw [hg] at HH ⊢
    clear hg D9
    have D8 := qh pO
    clear pO
    go_simp
    refine rd 2 rfl (fun Kq hK => ?_)
    go_simp
    with_reducible refine (X1.out _ HH.out.below).mono ?_
    rintro e x3 ⟨rfl, bq⟩
    have HN := qh (HH.out.call bq)
    have ON := qh (aL OA.out bq)
    clear bq
    refine hK.out _ _ (HN.out.os) (fun hS => ?_)
    clear hK Kq HH OA
    have HH := HN
    have OA := ON
    clear HN ON
    go_simp
    refine rd 3 rfl (fun Kq hK => ?_)
    go_simp
    with_reducible refine (yz k1 _).mono ?_
    rintro e x4 ⟨A1, c1, rfl, o1, bq⟩
    have RN := qh (aW o1 HH.out.below.size)
    have HN := qh (HH.out.call bq)
    have ON := qh (aL OA.out bq)
    clear bq o1
    refine hK.out _ _ (HN.out.os) (fun hS => ?_)
    clear hK Kq HH OA
    have HH := HN
    have OA := ON
    clear HN ON
    go_simp
    refine rd 5 rfl (fun Kq hK => ?_)
    go_simp
    with_reducible refine (X2.out _ HH.out.below).mono ?_
    rintro e x5 ⟨rfl, bq⟩
    have HN := qh (HH.out.call bq)
    have ON := qh (aL OA.out bq)
    have Br := qh (aL RN.out bq)
    clear RN
    have RN := Br
    clear Br
    clear bq
    refine hK.out _ _ (HN.out.os) (fun hS => ?_)
    clear hK Kq HH OA
    have HH := HN
    have OA := ON
    clear HN ON
    go_simp
    refine rd 6 rfl (fun Kq hK => ?_)
    go_simp
    with_reducible refine (PP.out A1 c1 _ RN.out).mono ?_
    rintro e x6 ⟨A8, c8, rfl, o8, bq⟩
    have OP := qh (aW o8 HH.out.below.size)
    have HN := qh (HH.out.call bq)
    have ON := qh (aL OA.out bq)
    clear bq o8 RN
    refine hK.out _ _ (HN.out.os) (fun hS => ?_)
    clear hK Kq HH OA
    have HH := HN
    have OA := ON
    clear HN ON
    go_simp
    refine rd 8 rfl (fun Kq hK => ?_)
    refine rV.aH rfl (.tmp 8) (.tmp 40) rfl rfl g8 (A8, 2, c8) rfl rfl 35 _ (HH.out.b g8 (35) #[.slice none 0 0] (by simp)) rfl ?_
    intro w9 o9 b9
    have H9 := qh (show Holds w [(g8, 35, #[.slice A8 2 c8]), (g5, 29, y.cells.toArray)] w9 from (HH.out.os (L' := (g8, 35, #[.slice none 0 0]) :: [(g5, 29, y.cells.toArray)])).turn o9 b9 D8.out.1 (fun x hx => by
     simp only [List.mem_cons, List.not_mem_nil, or_false] at hx
     subst hx
     exact D8.out.2))
    have QB := qh (aI OA.out o9 (HH.out.b g8 (35) #[.slice none 0 0] (by simp)) (by decide))
    have Qz := qh (aI OP.out o9 (HH.out.b g8 (35) #[.slice none 0 0] (by simp)) (by decide))
    refine hK.out _ _ (H9.out.of (fun x hx => List.mem_cons_of_mem _ hx)) (fun hS => ?_)
    clear hK Kq
    refine wpAnyH_done (by kernel_rfl) ?_ _
    go_wp2_with fail
    go_meet
    exact ⟨g8, A8, c8, rfl, H9, QB, Qz⟩
  ·go_simp
   have HN := qh (show Holds w ((wd.heap.size, 35, #[.slice none 0 0]) :: [(g5, 29, y.cells.toArray)]) (wd.alloc (.cells #[.slice none 0 0] 35)) from HH.out.box 35 #[.slice none 0 0])
   have ON := qh (OA.out.alloc (.cells #[.slice none 0 0] 35))
   have D9 := qh (show w.heap.size ≤ wd.heap.size ∧ g5 ≠ wd.heap.size from ⟨HH.out.below.size, Nat.ne_of_lt (HH.out.b g5 (29) (y.cells.toArray) (by simp)).lt⟩)
   refine hK.out _ _ (HN.out.os) (fun hS => ?_)
   clear hK Kq HH OA
   have HH := HN
   have OA := ON
   clear HN ON
   obtain ⟨g8, hg, pO⟩ : ∃ g, wd.heap.size = g ∧ w.heap.size ≤ g ∧ g5 ≠ g := ⟨_, rfl, D9.out⟩
   obtain ⟨x1, hV⟩ : ∃ V, wd.alloc (.cells #[.slice none 0 0] 35) = V := ⟨_, rfl⟩
   rw [hV] at HH OA hS ⊢
   clear hV
   rw [hg] at HH ⊢
   clear hg D9
   have D8 := qh pO
   clear pO
   go_simp
   refine rd 1 rfl (fun Kq hK => ?_)
   go_simp
   with_reducible refine (XO.out _ HH.out.below).mono ?_
   rintro e x2 ⟨rfl, bq⟩
   have HN := qh (HH.out.call bq)
   have ON := qh (aL OA.out bq)
   clear bq
   refine hK.out _ _ (HN.out.os) (fun hS => ?_)
   clear hK Kq HH OA
   have HH := HN
   have OA := ON
   clear HN ON
   go_simp
   refine rd 2 rfl (fun Kq hK => ?_)
   go_simp
   with_reducible refine (X1.out _ HH.out.below).mono ?_
   rintro e x3 ⟨rfl, bq⟩
   have HN := qh (HH.out.call bq)
   have ON := qh (aL OA.out bq)
   clear bq
   refine hK.out _ _ (HN.out.os) (fun hS => ?_)
   clear hK Kq HH OA
   have HH := HN
   have OA := ON
   clear HN ON
   go_simp
   refine rd 3 rfl (fun Kq hK => ?_)
   go_simp
   with_reducible refine (yz k1 _).mono ?_
   rintro e x4 ⟨A1, c1, rfl, o1, bq⟩
   have RN := qh (aW o1 HH.out.below.size)
   have HN := qh (HH.out.call bq)
   have ON := qh (aL OA.out bq)
   clear bq o1
   refine hK.out _ _ (HN.out.os) (fun hS => ?_)
   clear hK Kq HH OA
   have HH := HN
   have OA := ON
   clear HN ON
   go_simp
   refine rd 5 rfl (fun Kq hK => ?_)
   go_simp
   with_reducible refine (X2.out _ HH.out.below).mono ?_
   rintro e x5 ⟨rfl, bq⟩
   have HN := qh (HH.out.call bq)
   have ON := qh (aL OA.out bq)
   have Br := qh (aL RN.out bq)
   clear RN
   have RN := Br
   clear Br
   clear bq
   refine hK.out _ _ (HN.out.os) (fun hS => ?_)
   clear hK Kq HH OA
   have HH := HN
   have OA := ON
   clear HN ON
   go_simp
   refine rd 6 rfl (fun Kq hK => ?_)
   go_simp
   with_reducible refine (PP.out A1 c1 _ RN.out).mono ?_
   rintro e x6 ⟨A8, c8, rfl, o8, bq⟩
   have OP := qh (aW o8 HH.out.below.size)
   have HN := qh (HH.out.call bq)
   have ON := qh (aL OA.out bq)
   clear bq o8 RN
   refine hK.out _ _ (HN.out.os) (fun hS => ?_)
   clear hK Kq HH OA
   have HH := HN
   have OA := ON
   clear HN ON
   go_simp
   refine rd 8 rfl (fun Kq hK => ?_)
   refine rV.aH rfl (.tmp 8) (.tmp 40) rfl rfl g8 (A8, 2, c8) rfl rfl 35 _ (HH.out.b g8 (35) #[.slice none 0 0] (by simp)) rfl ?_
   intro w9 o9 b9
   have H9 := qh (show Holds w [(g8, 35, #[.slice A8 2 c8]), (g5, 29, y.cells.toArray)] w9 from (HH.out.os (L' := (g8, 35, #[.slice none 0 0]) :: [(g5, 29, y.cells.toArray)])).turn o9 b9 D8.out.1 (fun x hx => by
    simp only [List.mem_cons, List.not_mem_nil, or_false] at hx
    subst hx
    exact D8.out.2))
   have QB := qh (aI OA.out o9 (HH.out.b g8 (35) #[.slice none 0 0] (by simp)) (by decide))
   have Qz := qh (aI OP.out o9 (HH.out.b g8 (35) #[.slice none 0 0] (by simp)) (by decide))
   refine hK.out _ _ (H9.out.of (fun x hx => List.mem_cons_of_mem _ hx)) (fun hS => ?_)
   clear hK Kq
   refine wpAnyH_done (by kernel_rfl) ?_ _
   go_wp2_with fail
   go_meet
   exact ⟨g8, A8, c8, rfl, H9, QB, Qz⟩
 case rest =>
  obtain ⟨g8, A8, c8, rfl, H8, OA, OP⟩ := hcut
  clear H7 O7 XO X1
  rename_i wc
  have RY := qh (show ∀ W, From wc W → au W g5 0 y.cells from fun W hC => au.ah (aa hC.below (H8.out.b (g5) (29) (y.cells.toArray) (by simp)) (H8.out.b (g5) (29) (y.cells.toArray) (by simp)).lt))
  have R8 := qh (show ∀ W, From wc W → W.cell? ⟨g8, 0, none⟩ = some (.slice A8 2 c8) from fun W hC => ax.c0 (aa hC.below (H8.out.b (g8) (35) (#[.slice A8 2 c8]) (by simp)) (H8.out.b (g8) (35) (#[.slice A8 2 c8]) (by simp)).lt))
  have C1 := qh (fun W (hC : From wc W) => X2.out W (H8.out.call hC.below).below)
  have C2 := qh (show ∀ W, From wc W → Calls Tryz.prog 10 #[.slice A7 (l.length + m.length) c7, .int .i64 32] W fun e w' => e = .returned (.agg (ak k2).toArray) ∧ Below W.heap.size W w' from fun W hC => by
   have h := T2.out A7 c7 W (dm aC (aL OA.out hC.below))
   rw [List.length_append] at h
   exact h)
  have C3 := qh (fun W (hC : From wc W) => T1.out W (H8.out.call hC.below).below)
  have C4 := qh (show ∀ W, From wc W → Calls Tryz.prog 11 #[.agg (encR (A8, 2, c8)).toArray, .agg (ak k1).toArray] W fun e w' => e = .returned (.bool true) ∧ Below W.heap.size W w' from fun W hC => by
   have h := Nu A8 c8 [k1, k2] k1 W (by simp) (dm aC (aL OP.out hC.below))
   rw [Tf] at h
   exact h)
  have C5 := qh (show ∀ W, From wc W → Calls Tryz.prog 11 #[.agg (encR (A8, 2, c8)).toArray, .agg (ak k2).toArray] W fun e w' => e = .returned (.bool true) ∧ Below W.heap.size W w' from fun W hC => by
   have h := Nu A8 c8 [k1, k2] k2 W (by simp) (dm aC (aL OP.out hC.below))
   rw [Te] at h
   exact h)
  clear OA OP RR LW MW X2 T1 T2
  go_wp2_with fail
  refine fE (by kernel_rfl) (by kernel_rfl) ?_
  repeat (first
   | go_big_quiet_skip
   | ((with_reducible refine bI 5 ?_); refine gz.gM (by rfl) (.tmp 5) rfl g5 0 rfl y RY.out ?_; simp only [Act.put, List.setIfInBounds_toArray, List.set_cons_succ, List.set_cons_zero])
   | ((with_reducible refine bI 8 ?_); refine rV.gM (by rfl) (.tmp 8) rfl g8 0 rfl (A8, 2, c8) (fun W hC => uh (R8.out W hC)) ?_; simp only [Act.put, List.setIfInBounds_toArray, List.set_cons_succ, List.set_cons_zero])
   | ((with_reducible refine TP 45 47 ?_); refine wM (by rfl) 26 26 (.tmp 45) (.tmp 47) rfl (ak k2).toArray (ak k2).toArray rfl rfl (by kernel_rfl) true (fun V => (jw _ _ V).trans (by simp)) ?_; simp only [Act.put, List.setIfInBounds_toArray, List.set_cons_succ, List.set_cons_zero])
   | (go_big_quiet_want; go_big_quiet_op; refine ⟨_, fun _ _ => by with_reducible rfl, ?_⟩; go_big_quiet_on)
   | go_big_quiet_step ((intro hC; first
    | (go_at_call 9; with_reducible exact (C1.out _ hC).mono fun _ _ h => ⟨h.1, hC.call h.2⟩)
    | (go_at_call 10; with_reducible exact (C2.out _ hC).mono fun _ _ h => ⟨h.1, hC.call h.2⟩)
    | (go_at_call 10; with_reducible exact (C3.out _ hC).mono fun _ _ h => ⟨h.1, hC.call h.2⟩)
    | (go_at_call 11; with_reducible exact (C4.out _ hC).mono fun _ _ h => ⟨h.1, hC.call h.2⟩)
    | (go_at_call 11; with_reducible exact (C5.out _ hC).mono fun _ _ h => ⟨h.1, hC.call h.2⟩))))
  refine wpQuiet_nil ?_
  intro w9 hC
  have B9 := qh (H8.out.call hC.below).below
  clear hC
  go_wp2_with fail
  go_ret
  exact ⟨by first | rfl | simp, B9.out⟩
theorem QU (A : Option Addr) (c : Nat) (l : List aS) (B : Option Addr) (d : Nat) (m : List aS) (w : World) (hl : aK ak 32 w w.heap.size A c l) (hm : aK ak 32 w w.heap.size B d m) (hR : aM w) : Calls Tryz.prog 3 #[.slice A l.length c, .slice B m.length d] w fun e w' => e = .returned (.bool true) ∧ Below w.heap.size w w' := by
 by_cases hx : 30 < l.length
 ·exact F9 A c l B d m w hl hm hR hx
 ·by_cases hy : 30 < m.length
  ·exact F8 A c l B d m w hl hm hR hx hy
  ·exact F7 A c l B d m w hl hm hR hx hy
end
section
open Go.ChangeShapes Go.WideShapes Go.ChangeAt Go.RowKit
theorem own : ownKnob Tryz.prog.godebug = none := by kernel_rfl
theorem gK : Tryz.prog.globalNamed "thurible/sha.cubeRoots" = some 1 := by kernel_rfl
theorem gKt : (Tryz.prog.globals[1]?).map (·.type) = some 126 := by kernel_rfl
theorem gH : Tryz.prog.globalNamed "thurible/sha.squareRoots" = some 0 := by kernel_rfl
theorem gHt : (Tryz.prog.globals[0]?).map (·.type) = some 80 := by kernel_rfl
theorem c64 : Tryz.prog.cellsOf 126 = 64 := by kernel_rfl
theorem c8 : Tryz.prog.cellsOf 80 = 8 := by kernel_rfl
theorem c1 : Tryz.prog.cellsOf 24 = 1 := by kernel_rfl
def aa1 : List Int := UE.map wv
def aa2 : List Int := UJ.map wv
theorem aa5 {H : Type} : Rows.laid_thurible_sha_cubeRoots (H := H) = Lib.tabData .u32 aa1 := by
 unfold Rows.laid_thurible_sha_cubeRoots Lib.tabData aa1 UE; rfl
theorem aa6 {H : Type} : Rows.laid_thurible_sha_squareRoots (H := H) = Lib.tabData .u32 aa2 := by
 unfold Rows.laid_thurible_sha_squareRoots Lib.tabData aa2 UJ; rfl
theorem getD_map (l : List (BitVec 32)) (i : Nat) (h : i < l.length) : (l.map wv).getD i 0 = wv (l.getD i 0) := by
 simp [List.getD_eq_getElem?_getD, h]
theorem aaZ {W : World} (h0 : laidMetH Tryz.prog [("thurible/sha.cubeRoots", Rows.laid_thurible_sha_cubeRoots), ("thurible/sha.squareRoots", Rows.laid_thurible_sha_squareRoots)] W) : aM W := by
 have h : laidMet Tryz.prog [("thurible/sha.cubeRoots", Rows.laid_thurible_sha_cubeRoots), ("thurible/sha.squareRoots", Rows.laid_thurible_sha_squareRoots)] W := h0
 rw [aa5, aa6] at h
 have t1 : Lib.TabIs Tryz.prog W "thurible/sha.cubeRoots" .u32 aa1 := Lib.tabIs_of_head gK gKt Tryz.underlying126 Tryz.underlying24 c1 c64 h
 have t2 : Lib.TabIs Tryz.prog W "thurible/sha.squareRoots" .u32 aa2 := Lib.tabIs_of_head gH gHt Tryz.underlying80 Tryz.underlying24 c1 c8 h.tail
 refine ⟨fun i hi => ?_, fun i hi => ?_⟩
 ·rw [t2.cell gH i (by simpa [aa2, UJ] using hi)]; unfold aa2; rw [getD_map _ _ (by simpa [UJ] using hi)]; rfl
 ·rw [t1.cell gK i (by simpa [aa1, UE] using hi)]; unfold aa1; rw [getD_map _ _ (by simpa [UE] using hi)]; rfl
def putCells (cs : Array Value) : Obj → Obj
 | .cells _ t frozen => .cells cs t frozen
 | o => o
noncomputable def aaY (os : Os) : World :=
 { World.holding Tryz.prog os ⟨#[], #[], []⟩ with heap := ((World.holding Tryz.prog os ⟨#[], #[], []⟩).heap.modify 1 (putCells (aa1.map (Value.int .u32)).toArray)).modify 0 (putCells (aa2.map (Value.int .u32)).toArray) }
end
end Go.Proofs.YtnpmpeoojncjhaaGreatDoor
