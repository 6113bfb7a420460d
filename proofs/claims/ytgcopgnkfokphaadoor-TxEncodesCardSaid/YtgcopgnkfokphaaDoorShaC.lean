/- One block put to the hash: sha.compress. -/
import Derived.Test.YtgcopgnkfokphaaDoorShaB
import Derived.Deep.DeepCutAuto
import Derived.Deep.RegionHeld3
namespace Go.Proofs.YtgcopgnkfokphaaDoor
open Go.RowKit
theorem keep_alloc {w : World} {o : Obj} {a : Addr} {v : Value} (h : w.cell? a = some v) : (w.alloc o).cell? a = some v := by
  rw [World.cell?_alloc_lt w o a (World.block_lt_of_cell? w _ h)]; exact h
theorem s_alloc {w : World} {o : Obj} {a b c d : Addr} {x y z u : Value} (h : w.cell? a = some x ∧ w.cell? b = some y ∧ w.cell? c = some z ∧ w.cell? d = some u) :
    (w.alloc o).cell? a = some x ∧ (w.alloc o).cell? b = some y ∧ (w.alloc o).cell? c = some z ∧ (w.alloc o).cell? d = some u := ⟨keep_alloc h.1, keep_alloc h.2.1, keep_alloc h.2.2.1, keep_alloc h.2.2.2⟩
theorem s_drew {w : World} {a b c d : Addr} {x y z u : Value} (h : w.cell? a = some x ∧ w.cell? b = some y ∧ w.cell? c = some z ∧ w.cell? d = some u) :
    w.drew.cell? a = some x ∧ w.drew.cell? b = some y ∧ w.drew.cell? c = some z ∧ w.drew.cell? d = some u := h
set_option maxRecDepth 20000 in
set_option maxHeartbeats 4000000 in
theorem compress_any (K : Nat → BitVec 32) (s : ByteArray) (h : Nat → BitVec 32) (hs : s.size = 64) (w : World)
    (hK : ∀ i, i < 64 → w.cell? ⟨1, i, none⟩ = some (.int .u32 (wv (K i)))) :
    Calls Tryd.prog 51 #[.agg (uarr 8 h), .string s] w fun e w' => e = .returned (.agg (uarr 8 (compressF K (wordL s.data.toList) h))) ∧ Below w.heap.size w w' := by
  have Hs := Lib.hid hs
  have HK := Lib.hid hK
  have hgl : 1 < w.heap.size := World.block_lt_of_cell? w _ (hK 0 (by omega))
  clear hs hK
  go_enter Tryd.func51, Tryd.ntmps51
  go_wp2_with fail
  go_loopw [19] (fun i wr => ∃ k : Nat, k ≤ 16 ∧ i = .int .i64 k ∧ Blk wr (w.heap.size + 2) 97 (uarr 16 (fun j => if j < k then wordL s.data.toList j else 0)) ∧ Blk wr w.heap.size 78 (uarr 8 h) ∧
     Blk wr (w.heap.size + 1) 78 (uarr 8 (fun _ => 0)) ∧ Below w.heap.size w wr ∧ wr.heap.size = w.heap.size + 3)
    (fun i _ => 16 - (intOf i).toNat)
  case atStart =>
    refine ⟨0, by omega, rfl, ?_, ?_, ?_, ?_, by simp⟩
    · exact blk_new _ (uarr 16 (fun j => if j < 0 then wordL s.data.toList j else 0)) (by simp)
    · exact ((Blk.new _ _ _).alloc _).alloc _
    · exact (blk_new _ (uarr 8 (fun _ => 0)) (by simp)).alloc _
    · exact (((Below.refl _ _).alloc (Nat.le_refl _) _).alloc (by simp) _).alloc (by simp; omega) _
  case round =>
    obtain ⟨k, hk, rfl, h1, h2, h3, hb, hz⟩ := hrel
    by_cases hlt : k < 16
    · go_wp2_with fail
      refine (word_any s k (by have := Hs.out; omega) (by have := Hs.out; omega) _).mono ?_
      rintro e w' ⟨rfl, n, rfl⟩
      have hc : wr.cell? ⟨w.heap.size + 1 + 1, k, none⟩ = some (.int .u32 (wv 0)) := by
        rw [show w.heap.size + 1 + 1 = w.heap.size + 2 from rfl, h1.cell, uarr_get _ _ _ hlt]; simp
      have hf : wr.frozen? ⟨w.heap.size + 1 + 1, k, none⟩ = false := h1.frozen k
      go_wp2
      go_roundw
      case rel =>
        refine ⟨k + 1, by omega, by go_num, ?_, ?_, ?_, ?_, ?_⟩
        · have hh := (h1.drewN n).set_ k (.int .u32 (wv (wordL s.data.toList k)))
          rw [uarr_set] at hh
          rw [uarr_congr 16 _ (upd (fun j => if j < k then wordL s.data.toList j else 0) k (wordL s.data.toList k)) (fun i hi => by
            unfold upd; by_cases e : i = k
            · subst e; simp
            · by_cases l : i < k
              · simp [e, l]; omega
              · simp [e, l]; omega)]
          exact hh
        · exact (h2.drewN n).far (by simp; omega) _
        · exact (h3.drewN n).far (by simp) _
        · exact (below_drewN hb n).setCell (by simp; omega) _
        · simpa [World.setCell] using hz
      case measure => simp [intOf]; omega
    · have a0 : ∀ j, j < 8 → wr.cell? ⟨w.heap.size, j, none⟩ = some (.int .u32 (wv (h j))) := fun j hj => by rw [h2.cell, uarr_get _ _ _ hj]
      have c0 := a0 0 (by omega)
      have c1 := a0 1 (by omega)
      have c2 := a0 2 (by omega)
      have c3 := a0 3 (by omega)
      have a1 := Lib.hid a0
      clear a0
      have h1' : Blk wr (w.heap.size + 2) 97 (uarr 16 (wordL s.data.toList)) := by
        rw [uarr_congr 16 (wordL s.data.toList) (fun j => if j < k then wordL s.data.toList j else 0) (fun i hi => by rw [if_pos (by omega)])]; exact h1
      have H1 := Lib.hid h1'
      have H2 := Lib.hid h2
      have H3 := Lib.hid h3
      clear h1 h2 h3 h1'
      go_wp2_with fail
      go_cut [7, 8, 9, 10] (fun p7 p8 p9 p10 wc => ∃ g7 g8 g9 g10 : Nat, p7 = .pointer (some ⟨g7, 0, none⟩) ∧ p8 = .pointer (some ⟨g8, 0, none⟩) ∧ p9 = .pointer (some ⟨g9, 0, none⟩) ∧ p10 = .pointer (some ⟨g10, 0, none⟩) ∧
         (Blk wc g7 22 #[.int .u32 (wv (h 0))] ∧ Blk wc g8 22 #[.int .u32 (wv (h 1))] ∧ Blk wc g9 22 #[.int .u32 (wv (h 2))] ∧ Blk wc g10 22 #[.int .u32 (wv (h 3))]) ∧
         (wr.heap.size ≤ g7 ∧ wr.heap.size ≤ g8 ∧ wr.heap.size ≤ g9 ∧ wr.heap.size ≤ g10) ∧ (g7 ≠ g8 ∧ g7 ≠ g9 ∧ g7 ≠ g10 ∧ g8 ≠ g9 ∧ g8 ≠ g10 ∧ g9 ≠ g10) ∧ Below wr.heap.size wr wc ∧ wc.heap.size = wr.heap.size + 4)
      case first =>
        clear HK hgl hb hlt Hs a1 H1 H2 H3
        have h0 := And.intro c0 (And.intro c1 (And.intro c2 c3))
        go_region_held3 (fun w' => w'.cell? ⟨w.heap.size, 0, none⟩ = some (.int .u32 (wv (h 0))) ∧ w'.cell? ⟨w.heap.size, 1, none⟩ = some (.int .u32 (wv (h 1))) ∧
          w'.cell? ⟨w.heap.size, 2, none⟩ = some (.int .u32 (wv (h 2))) ∧ w'.cell? ⟨w.heap.size, 3, none⟩ = some (.int .u32 (wv (h 3))))
          (first | exact s_drew h0 | exact s_drew (s_alloc h0) | exact s_drew (s_alloc (s_alloc h0)) | exact s_drew (s_alloc (s_alloc (s_alloc h0))) | exact s_drew (s_alloc (s_alloc (s_alloc (s_alloc h0))))) (first | fail)
        all_goals (
          go_wp2_with fail
          go_meet
          refine ⟨_, _, _, _, rfl, rfl, rfl, rfl, ⟨?_, ?_, ?_, ?_⟩, ?_, ?_, ?_, ?_⟩
          rotate_right 1
          · simp
          rotate_right 1
          · exact (((((Below.refl _ _).alloc (Nat.le_refl _) _).alloc (by simp) _).alloc (by simp; omega) _).alloc (by simp; omega) _).drew
          rotate_right 1
          · omega
          rotate_right 1
          · omega
          all_goals first
            | exact (blk_new _ _ (by simp [hz])).drew
            | exact ((blk_new _ _ (by simp [hz])).alloc _).drew
            | exact (((blk_new _ _ (by simp [hz])).alloc _).alloc _).drew
            | exact ((((blk_new _ _ (by simp [hz])).alloc _).alloc _).alloc _).drew)
      case rest =>
        rename World => wc1
        obtain ⟨g7, g8, g9, g10, rfl, rfl, rfl, rfl, B1, hge, hne, hb1, hz1⟩ := hcut
        replace hne := Lib.hid hne
        replace B1 := Lib.hid B1
        have a0 : ∀ j, j < 8 → wc1.cell? ⟨w.heap.size, j, none⟩ = some (.int .u32 (wv (h j))) := fun j hj => by rw [hb1.cell (by simp; omega)]; exact a1.out j hj
        have c4 := a0 4 (by omega)
        have c5 := a0 5 (by omega)
        have c6 := a0 6 (by omega)
        have c7 := a0 7 (by omega)
        clear a0 c0 c1 c2 c3
        go_wp2_with fail
        go_cut [11, 12, 13, 14] (fun p7 p8 p9 p10 wc => ∃ g11 g12 g13 g14 : Nat, p7 = .pointer (some ⟨g11, 0, none⟩) ∧ p8 = .pointer (some ⟨g12, 0, none⟩) ∧ p9 = .pointer (some ⟨g13, 0, none⟩) ∧ p10 = .pointer (some ⟨g14, 0, none⟩) ∧
           (Blk wc g11 22 #[.int .u32 (wv (h 4))] ∧ Blk wc g12 22 #[.int .u32 (wv (h 5))] ∧ Blk wc g13 22 #[.int .u32 (wv (h 6))] ∧ Blk wc g14 22 #[.int .u32 (wv (h 7))]) ∧
           (wc1.heap.size ≤ g11 ∧ wc1.heap.size ≤ g12 ∧ wc1.heap.size ≤ g13 ∧ wc1.heap.size ≤ g14) ∧ (g11 ≠ g12 ∧ g11 ≠ g13 ∧ g11 ≠ g14 ∧ g12 ≠ g13 ∧ g12 ≠ g14 ∧ g13 ≠ g14) ∧ Below wc1.heap.size wc1 wc ∧ wc.heap.size = wc1.heap.size + 4)
        case first =>
          have hsz : wc1.heap.size = w.heap.size + 7 := by omega
          clear HK hgl hb hz hlt Hs a1 H1 H2 H3 hne B1 hge hb1 hz1
          have h0 := And.intro c4 (And.intro c5 (And.intro c6 c7))
          go_region_held3 (fun w' => w'.cell? ⟨w.heap.size, 4, none⟩ = some (.int .u32 (wv (h 4))) ∧ w'.cell? ⟨w.heap.size, 5, none⟩ = some (.int .u32 (wv (h 5))) ∧
            w'.cell? ⟨w.heap.size, 6, none⟩ = some (.int .u32 (wv (h 6))) ∧ w'.cell? ⟨w.heap.size, 7, none⟩ = some (.int .u32 (wv (h 7))))
            (first | exact s_drew h0 | exact s_drew (s_alloc h0) | exact s_drew (s_alloc (s_alloc h0)) | exact s_drew (s_alloc (s_alloc (s_alloc h0))) | exact s_drew (s_alloc (s_alloc (s_alloc (s_alloc h0))))) (first | fail)
          all_goals (
            go_wp2_with fail
            go_meet
            refine ⟨_, _, _, _, rfl, rfl, rfl, rfl, ⟨?_, ?_, ?_, ?_⟩, ?_, ?_, ?_, ?_⟩
            rotate_right 1
            · simp
            rotate_right 1
            · exact (((((Below.refl _ _).alloc (Nat.le_refl _) _).alloc (by simp) _).alloc (by simp; omega) _).alloc (by simp; omega) _).drew
            rotate_right 1
            · omega
            rotate_right 1
            · omega
            all_goals first
              | exact (blk_new _ _ (by simp [hsz])).drew
              | exact ((blk_new _ _ (by simp [hsz])).alloc _).drew
              | exact (((blk_new _ _ (by simp [hsz])).alloc _).alloc _).drew
              | exact ((((blk_new _ _ (by simp [hsz])).alloc _).alloc _).alloc _).drew)
        case rest =>
          rename World => wd
          obtain ⟨g11, g12, g13, g14, rfl, rfl, rfl, rfl, B2, hge2, hne2, hb2, hz2⟩ := hcut
          replace hne2 := Lib.hid hne2
          have hb2' : Below wr.heap.size wr wd := hb1.trans (hb2.mono (by omega))
          have lt2 : w.heap.size + 2 < wr.heap.size := by omega
          replace H1 := below_blk hb2' H1.out lt2
          replace H2 := Lib.hid (below_blk hb2' H2.out (by omega))
          replace H3 := Lib.hid (below_blk hb2' H3.out (by omega))
          have e7 : g7 < wc1.heap.size := B1.out.1.lt
          have e8 : g8 < wc1.heap.size := B1.out.2.1.lt
          have e9 : g9 < wc1.heap.size := B1.out.2.2.1.lt
          have e10 : g10 < wc1.heap.size := B1.out.2.2.2.lt
          have hB : Below w.heap.size w wd := hb.trans (hb2'.mono (by omega))
          have D1 := Lib.hid (And.intro (below_blk hb2 B1.out.1 e7) (And.intro (below_blk hb2 B1.out.2.1 e8) (And.intro (below_blk hb2 B1.out.2.2.1 e9) (below_blk hb2 B1.out.2.2.2 e10))))
          have hnd : [g7, g8, g9, g10, g11, g12, g13, g14].Nodup := by
            have := hne.out; have := hne2.out
            simp only [List.nodup_cons, List.mem_cons, List.not_mem_nil, not_or]
            refine ⟨⟨by omega, by omega, by omega, by omega, by omega, by omega, by omega, not_false⟩, ⟨by omega, by omega, by omega, by omega, by omega, by omega, not_false⟩, ⟨by omega, by omega, by omega, by omega, by omega, not_false⟩, ⟨by omega, by omega, by omega, by omega, not_false⟩, ⟨by omega, by omega, by omega, not_false⟩, ⟨by omega, by omega, not_false⟩, ⟨by omega, not_false⟩, not_false, List.nodup_nil⟩
          have HN := Lib.hid hnd
          replace H1 := Lib.hid H1
          replace B2 := Lib.hid B2
          have hm2 : ∀ x, x ∈ [w.heap.size + 2, g7, g8, g9, g10, g11, g12, g13, g14] → w.heap.size + 2 ≤ x := by
            intro x hx
            simp only [List.mem_cons, List.not_mem_nil, or_false] at hx
            omega
          have HM := Lib.hid hm2
          clear hnd hm2 hb2' hb1 hb2 B1 hne hne2 a1 c4 c5 c6 c7 hge hge2 e7 e8 e9 e10 hz1 hz2 lt2
          have hmf : ∀ (fn : Fn) (first cap : Array Value) (w : World), (Instr.makeFunc fn first cap).run Tryd.prog w = .ok (.func fn first cap) w := fun _ _ _ _ => rfl
          go_wp2_with fail
          clear hmf
          go_loopw [45] (fun i wr => ∃ k : Nat, k ≤ 64 ∧ i = .int .i64 k ∧ Only [w.heap.size + 2, g7, g8, g9, g10, g11, g12, g13, g14] wd wr ∧
             Blk wr (w.heap.size + 2) 97 (uarr 16 ((St.ofHash (wordL s.data.toList) h).run K k).w) ∧
             Blk wr g7 22 #[.int .u32 (wv ((St.ofHash (wordL s.data.toList) h).run K k).a)] ∧ Blk wr g8 22 #[.int .u32 (wv ((St.ofHash (wordL s.data.toList) h).run K k).b)] ∧
             Blk wr g9 22 #[.int .u32 (wv ((St.ofHash (wordL s.data.toList) h).run K k).c)] ∧ Blk wr g10 22 #[.int .u32 (wv ((St.ofHash (wordL s.data.toList) h).run K k).d)] ∧
             Blk wr g11 22 #[.int .u32 (wv ((St.ofHash (wordL s.data.toList) h).run K k).e)] ∧ Blk wr g12 22 #[.int .u32 (wv ((St.ofHash (wordL s.data.toList) h).run K k).f)] ∧
             Blk wr g13 22 #[.int .u32 (wv ((St.ofHash (wordL s.data.toList) h).run K k).g)] ∧ Blk wr g14 22 #[.int .u32 (wv ((St.ofHash (wordL s.data.toList) h).run K k).h)])
            (fun i _ => 64 - (intOf i).toNat)
          case atStart => exact ⟨0, by omega, rfl, Only.refl _ _, H1.out, D1.out.1, D1.out.2.1, D1.out.2.2.1, D1.out.2.2.2, B2.out.1, B2.out.2.1, B2.out.2.2.1, B2.out.2.2.2⟩
          case round =>
            rename World => wq
            obtain ⟨k, hk, rfl, hO, q0, q1, q2, q3, q4, q5, q6, q7, q8⟩ := hrel
            generalize hst : (St.ofHash (wordL s.data.toList) h).run K k = st at *
            have HST := Lib.hid hst
            clear hst
            by_cases hlt : k < 64
            · have Q := Lib.hid (And.intro q0 (And.intro q1 (And.intro q2 (And.intro q3 (And.intro q4 (And.intro q5 (And.intro q6 (And.intro q7 q8))))))))
              clear q0 q1 q2 q3 q4 q5 q6 q7 q8
              go_wp2_with fail
              have hr : Calls Tryd.prog 62 #[.int .i64 k, .pointer (some ⟨w.heap.size + 2, 0, none⟩), .pointer (some ⟨g14, 0, none⟩), .pointer (some ⟨g11, 0, none⟩), .pointer (some ⟨g12, 0, none⟩), .pointer (some ⟨g13, 0, none⟩), .pointer (some ⟨g7, 0, none⟩), .pointer (some ⟨g8, 0, none⟩), .pointer (some ⟨g9, 0, none⟩), .pointer (some ⟨g10, 0, none⟩)] wq
                 fun ee w' => ee = .returned (.tuple #[]) ∧ Only [w.heap.size + 2, g7, g8, g9, g10, g11, g12, g13, g14] wq w' ∧ Blk w' (w.heap.size + 2) 97 (uarr 16 (st.step K k).w) ∧
                   Blk w' g7 22 #[.int .u32 (wv (st.step K k).a)] ∧ Blk w' g8 22 #[.int .u32 (wv (st.step K k).b)] ∧ Blk w' g9 22 #[.int .u32 (wv (st.step K k).c)] ∧ Blk w' g10 22 #[.int .u32 (wv (st.step K k).d)] ∧
                   Blk w' g11 22 #[.int .u32 (wv (st.step K k).e)] ∧ Blk w' g12 22 #[.int .u32 (wv (st.step K k).f)] ∧ Blk w' g13 22 #[.int .u32 (wv (st.step K k).g)] ∧ Blk w' g14 22 #[.int .u32 (wv (st.step K k).h)] := by
                have hKk : wq.cell? ⟨1, k, none⟩ = some (.int .u32 (wv (K k))) := by
                  rw [hO.cell (fun hm => by have := HM.out _ hm; simp at this), hB.cell hgl]; exact HK.out k hlt
                obtain ⟨q0, q1, q2, q3, q4, q5, q6, q7, q8⟩ := Q.out
                by_cases h16 : k < 16
                · exact round_lo _ _ _ _ _ _ _ _ _ k h16 st.w (K k) _ _ _ _ _ _ _ _ wq hKk (by omega) q0 q1 q2 q3 q4 q5 q6 q7 q8 HN.out
                · exact round_hi _ _ _ _ _ _ _ _ _ k (by omega) hlt st.w (K k) _ _ _ _ _ _ _ _ wq hKk (by omega) q0 q1 q2 q3 q4 q5 q6 q7 q8 HN.out
              refine hr.mono ?_
              rintro e w' ⟨rfl, hO', r0, r1, r2, r3, r4, r5, r6, r7, r8⟩
              have hOO := hO.trans hO'
              have R := Lib.hid (And.intro r0 (And.intro r1 (And.intro r2 (And.intro r3 (And.intro r4 (And.intro r5 (And.intro r6 (And.intro r7 r8))))))))
              clear r0 r1 r2 r3 r4 r5 r6 r7 r8
              go_wp2
              go_roundw
              case rel =>
                refine ⟨k + 1, by omega, by go_num, hOO, ?_⟩
                have e : (St.ofHash (wordL s.data.toList) h).run K (k + 1) = st.step K k := by rw [← HST.out]; rfl
                rw [e]
                exact R.out
              case measure => simp [intOf]; omega
            · have cA : wq.cell? ⟨g7, 0, none⟩ = some (.int .u32 (wv st.a)) := q1.cell 0
              have cB : wq.cell? ⟨g8, 0, none⟩ = some (.int .u32 (wv st.b)) := q2.cell 0
              have cC : wq.cell? ⟨g9, 0, none⟩ = some (.int .u32 (wv st.c)) := q3.cell 0
              have cD : wq.cell? ⟨g10, 0, none⟩ = some (.int .u32 (wv st.d)) := q4.cell 0
              have cE : wq.cell? ⟨g11, 0, none⟩ = some (.int .u32 (wv st.e)) := q5.cell 0
              have cF : wq.cell? ⟨g12, 0, none⟩ = some (.int .u32 (wv st.f)) := q6.cell 0
              have cG : wq.cell? ⟨g13, 0, none⟩ = some (.int .u32 (wv st.g)) := q7.cell 0
              have cH : wq.cell? ⟨g14, 0, none⟩ = some (.int .u32 (wv st.h)) := q8.cell 0
              have hB2 : ∀ x, x < w.heap.size + 2 → x ∉ [w.heap.size + 2, g7, g8, g9, g10, g11, g12, g13, g14] := fun x hx hm => by have := HM.out x hm; omega
              have N2 := Lib.hid (hO.blk H2.out (hB2 _ (by omega)))
              have N3 := Lib.hid (hO.blk H3.out (hB2 _ (by omega)))
              have hBq : Below w.heap.size w wq := hB.trans (hO.below (fun k hk => by have := HM.out k hk; omega))
              clear q0 q1 q2 q3 q4 q5 q6 q7 q8 hO hB2
              go_wp2_with fail
              clear cA cB cC cD cE cF cG cH
              rw [show (#[Value.int IntKind.u32 (wv st.a), Value.int IntKind.u32 (wv st.b), Value.int IntKind.u32 (wv st.c), Value.int IntKind.u32 (wv st.d), Value.int IntKind.u32 (wv st.e), Value.int IntKind.u32 (wv st.f), Value.int IntKind.u32 (wv st.g), Value.int IntKind.u32 (wv st.h)] : Array Value) = uarr 8 st.out from rfl]
              go_loopw [61] (fun i wr => ∃ k : Nat, k ≤ 8 ∧ i = .int .i64 k ∧ Blk wr w.heap.size 78 (uarr 8 (fun j => if j < k then h j + st.out j else h j)) ∧ Blk wr (w.heap.size + 1) 78 (uarr 8 (fun _ => 0)) ∧ Below w.heap.size w wr)
                (fun i _ => 8 - (intOf i).toNat)
              case atStart => exact ⟨0, by omega, rfl, N2.out, N3.out, hBq⟩
              case round =>
                rename World => wz
                rename_i hk9 _ 
                obtain ⟨j, hj, rfl, r1, r2, r3⟩ := hrel
                by_cases hlt : j < 8
                · have hel := uarr_get 8 st.out j hlt
                  have hc := (r1.cell j).trans (uarr_get 8 _ j hlt)
                  simp only [Nat.lt_irrefl, if_false] at hc
                  have hf := r1.frozen j
                  have hidx := run_index_one (P := Tryd.prog) 78 22 8 _ .i64 .u32 j _ Tryd.underlying78 Tryd.underlying22 (by kernel_rfl) hlt hel
                  have H1 := Lib.hid r1
                  have H2 := Lib.hid r2
                  clear r1 r2 hel
                  go_wp2
                  go_roundw
                  case rel =>
                    refine ⟨j + 1, by omega, by go_num, ?_, H2.out.far (by simp) _, r3.setCell (by simp) _⟩
                    have hh := H1.out.set_ j (.int .u32 (wv (h j + st.out j)))
                    rw [uarr_set] at hh
                    rw [u32_add, uarr_congr 8 _ (upd (fun i => if i < j then h i + st.out i else h i) j (h j + st.out j)) (fun i hi => by
                      unfold upd; by_cases e : i = j
                      · subst e; simp
                      · by_cases l : i < j
                        · simp [e, l]; omega
                        · simp [e, l]; omega)]
                    exact hh
                  case measure => simp [intOf]; omega
                · have r1' : Blk wz w.heap.size 78 (uarr 8 (compressF K (wordL s.data.toList) h)) := by
                    rw [uarr_congr 8 (compressF K (wordL s.data.toList) h) (fun i => if i < j then h i + st.out i else h i) (fun i hi => by
                      rw [if_pos (by omega), ← HST.out, show k = 64 by omega]; rfl)]
                    exact r1
                  clear r1
                  have R1 := Lib.hid r1'
                  have R2 := Lib.hid r2
                  clear r1' r2
                  go_wp2_with (first
                    | ((with_reducible refine at_load 2 ?_); refine wpList_load_row rfl 78 (.tmp 2) rfl w.heap.size rfl 78 (uarr 8 (compressF K (wordL s.data.toList) h)) (0, 0) _ R1.out Tryd.underlying78 rfl (by rw [uarr_size]; kernel_rfl) ?_)
                    | ((with_reducible refine at_store 4 72 ?_); refine wpList_store_arr rfl 78 (.tmp 4) (.tmp 72) rfl rfl (w.heap.size + 1) (uarr 8 (compressF K (wordL s.data.toList) h)) rfl rfl 78 _ R2.out (by rw [uarr_size]; kernel_rfl) (by rw [uarr_size, uarr_size]) (uarr_one _ _) ?_; intro w5 o5 b5))
                  refine bodyPost_ret (results_cell_row rfl _ _ (w.heap.size + 1) 78 _ (0, 0) _ rfl b5 Tryd.underlying78 rfl (by rw [uarr_size]; kernel_rfl)) rfl ⟨rfl, r3.trans (o5.below (by simp))⟩
end Go.Proofs.YtgcopgnkfokphaaDoor
