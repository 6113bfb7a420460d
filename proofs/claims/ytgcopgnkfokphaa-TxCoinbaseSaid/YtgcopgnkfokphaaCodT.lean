/- The document's own answers for codec: Read. -/
import Derived.Test.YtgcopgnkfokphaaCodS
namespace Go.Proofs.Ytgcopgnkfokphaa
open Go.RowKit
theorem getV_mk (n : Nat) (l : List UInt8) (e : Int) : getV (n, l, e) = .tuple #[.int .u64 n, .string ⟨l.toArray⟩, .int .i64 e] := rfl
theorem ba_tail (s : ByteArray) (b : UInt8) (t : List UInt8) (hl : s.data.toList = b :: t) : s.extract 1 s.size = ⟨t.toArray⟩ := by
  rw [ba_drop, hl]; rfl
theorem ba_head (s : ByteArray) (b : UInt8) (t : List UInt8) (hl : s.data.toList = b :: t) (h : 0 < s.size) : s[0] = b := by
  rw [← ba_at s 0 h]; simp [hl]
theorem refRead_nil (s : ByteArray) (hl : s.data.toList = []) (w : World) :
    Calls Try.prog 49 #[.string s] w fun e w' => e = .returned (getV (readF s.data.toList)) ∧ Below w.heap.size w w' := by
  have hz : s.size = 0 := by rw [← ba_len, hl]; rfl
  rw [show readF s.data.toList = (0, [], 30) by rw [hl]; rfl]
  have hd : ((s.size : Int) == 0) = true := by simp [hz]
  go_enter Try.func49, Try.ntmps49
  go_wp2
  go_ret3
  exact ⟨rfl, Below.refl _ _⟩
theorem refRead_one (s : ByteArray) (b : UInt8) (t : List UInt8) (hl : s.data.toList = b :: t) (hb : b.toNat < 253) (w : World) :
    Calls Try.prog 49 #[.string s] w fun e w' => e = .returned (getV (readF s.data.toList)) ∧ Below w.heap.size w w' := by
  have hz : 0 < s.size := by rw [← ba_len, hl]; simp
  have h0 := ba_head s b t hl hz
  have ht := ba_tail s b t hl
  rw [show readF s.data.toList = (b.toNat, t, 0) by rw [hl]; simp [readF, hb]]
  clear hl
  have d1 : ((s.size : Int) == 0) = false := beq_eq_false_iff_ne.mpr (by omega)
  have d2 : ((b.toNat : Int) == 253) = false := beq_eq_false_iff_ne.mpr (by omega)
  have d3 : ((b.toNat : Int) == 254) = false := beq_eq_false_iff_ne.mpr (by omega)
  have d4 : ((b.toNat : Int) == 255) = false := beq_eq_false_iff_ne.mpr (by omega)
  have hw : IntKind.u64.wrap (s[0].toNat : Int) = (b.toNat : Int) := by rw [h0, IntKind.wrap_u64]; omega
  have hsl : ∀ W, (Instr.slice 9 (.string s) (some (.int .i64 1)) none none).run Try.prog W = .ok (.string ⟨t.toArray⟩) W := fun W => by
    rw [run_slice_string_from_if W 9 s .i64 _ Try.underlying9, if_pos (by omega), ← ht]; rfl
  go_enter Try.func49, Try.ntmps49
  go_wp2_with fail
  go_quiet (fail)
  go_wp2
  go_ret3
  exact ⟨rfl, below_drewN (Below.refl _ _) _⟩
theorem refRead_253 (s : ByteArray) (b : UInt8) (t : List UInt8) (hl : s.data.toList = b :: t) (hs : s.size ≤ 1000000) (hb : b = 253) (w : World) :
    Calls Try.prog 49 #[.string s] w fun e w' => e = .returned (getV (readF s.data.toList)) ∧ Below w.heap.size w w' := by
  have hz : s.size = t.length + 1 := by rw [← ba_len, hl]; rfl
  have h0 := ba_head s b t hl (by omega)
  have ht := ba_tail s b t hl
  have hbn : (b.toNat : Int) = 253 := by rw [hb]; rfl
  have hwl : wideL b = 2 := by rw [hb]; rfl
  have hnb : ¬ b.toNat < 253 := by omega
  have hF : readF s.data.toList = if t.length < 2 then (0, [], 30) else if (cmpL (getN (t.take 2))).length = 2 + 1 then (getN (t.take 2), t.drop 2, 0) else (0, [], 31) := by rw [hl]; simp only [readF, hwl, if_neg hnb]
  obtain ⟨r, hr⟩ : ∃ r, readF s.data.toList = r := ⟨_, rfl⟩
  rw [hr]
  rw [hr] at hF
  have d1 : ((s.size : Int) == 0) = false := beq_eq_false_iff_ne.mpr (by omega)
  have d2 : ((b.toNat : Int) == 253) = true := by rw [hbn]; rfl
  have hsl : ∀ W, (Instr.slice 9 (.string s) (some (.int .i64 1)) none none).run Try.prog W = .ok (.string ⟨t.toArray⟩) W := fun W => by
    rw [run_slice_string_from_if W 9 s .i64 _ Try.underlying9, if_pos (by omega), ← ht]; rfl
  have HL := Lib.hid hl
  clear hl
  go_enter Try.func49, Try.ntmps49
  go_wp2_with fail
  refine (refGet_any ⟨t.toArray⟩ (by rw [← ba_len]; show t.length ≤ 1000000; omega) 2 _).mono ?_
  rintro e w1 ⟨rfl, b1⟩
  by_cases hsh : t.length < 2
  · rw [show getF (ByteArray.mk t.toArray).data.toList 2 = (0, [], 30) by simp [getF]; omega, getV_mk]
    rw [if_pos hsh] at hF
    go_wp2
    go_ret3
    exact ⟨by rw [hF]; rfl, b1⟩
  · rw [show getF (ByteArray.mk t.toArray).data.toList 2 = (getN (t.take 2), t.drop 2, 0) by simp [getF]; omega, getV_mk]
    rw [if_neg hsh] at hF
    go_wp2_with fail
    refine (refCompact_any (getN (t.take 2)) _).mono ?_
    rintro e w2 ⟨rfl, b2⟩
    have B2 := b1.trans (b2.mono b1.size)
    have hcl : (ByteArray.mk (cmpL (getN (t.take 2))).toArray).size = (cmpL (getN (t.take 2))).length := by rw [← ba_len]
    by_cases hc : (cmpL (getN (t.take 2))).length = 2 + 1
    · rw [if_pos hc] at hF
      rw [hc] at hcl
      go_wp2
      go_ret3
      exact ⟨by rw [hF]; rfl, B2⟩
    · rw [if_neg hc] at hF
      go_wp2
      go_ret3
      exact ⟨by rw [hF]; rfl, B2⟩
theorem refRead_254 (s : ByteArray) (b : UInt8) (t : List UInt8) (hl : s.data.toList = b :: t) (hs : s.size ≤ 1000000) (hb : b = 254) (w : World) :
    Calls Try.prog 49 #[.string s] w fun e w' => e = .returned (getV (readF s.data.toList)) ∧ Below w.heap.size w w' := by
  have hz : s.size = t.length + 1 := by rw [← ba_len, hl]; rfl
  have h0 := ba_head s b t hl (by omega)
  have ht := ba_tail s b t hl
  have hbn : (b.toNat : Int) = 254 := by rw [hb]; rfl
  have hwl : wideL b = 4 := by rw [hb]; rfl
  have hnb : ¬ b.toNat < 253 := by omega
  have hF : readF s.data.toList = if t.length < 4 then (0, [], 30) else if (cmpL (getN (t.take 4))).length = 4 + 1 then (getN (t.take 4), t.drop 4, 0) else (0, [], 31) := by rw [hl]; simp only [readF, hwl, if_neg hnb]
  obtain ⟨r, hr⟩ : ∃ r, readF s.data.toList = r := ⟨_, rfl⟩
  rw [hr]
  rw [hr] at hF
  have d1 : ((s.size : Int) == 0) = false := beq_eq_false_iff_ne.mpr (by omega)
  have d2 : ((b.toNat : Int) == 253) = false := by rw [hbn]; rfl
  have d3 : ((b.toNat : Int) == 254) = true := by rw [hbn]; rfl
  have hsl : ∀ W, (Instr.slice 9 (.string s) (some (.int .i64 1)) none none).run Try.prog W = .ok (.string ⟨t.toArray⟩) W := fun W => by
    rw [run_slice_string_from_if W 9 s .i64 _ Try.underlying9, if_pos (by omega), ← ht]; rfl
  have HL := Lib.hid hl
  clear hl
  go_enter Try.func49, Try.ntmps49
  go_wp2_with fail
  refine (refGet_any ⟨t.toArray⟩ (by rw [← ba_len]; show t.length ≤ 1000000; omega) 4 _).mono ?_
  rintro e w1 ⟨rfl, b1⟩
  by_cases hsh : t.length < 4
  · rw [show getF (ByteArray.mk t.toArray).data.toList 4 = (0, [], 30) by simp [getF]; omega, getV_mk]
    rw [if_pos hsh] at hF
    go_wp2
    go_ret3
    exact ⟨by rw [hF]; rfl, b1⟩
  · rw [show getF (ByteArray.mk t.toArray).data.toList 4 = (getN (t.take 4), t.drop 4, 0) by simp [getF]; omega, getV_mk]
    rw [if_neg hsh] at hF
    go_wp2_with fail
    refine (refCompact_any (getN (t.take 4)) _).mono ?_
    rintro e w2 ⟨rfl, b2⟩
    have B2 := b1.trans (b2.mono b1.size)
    have hcl : (ByteArray.mk (cmpL (getN (t.take 4))).toArray).size = (cmpL (getN (t.take 4))).length := by rw [← ba_len]
    by_cases hc : (cmpL (getN (t.take 4))).length = 4 + 1
    · rw [if_pos hc] at hF
      rw [hc] at hcl
      go_wp2
      go_ret3
      exact ⟨by rw [hF]; rfl, B2⟩
    · rw [if_neg hc] at hF
      go_wp2
      go_ret3
      exact ⟨by rw [hF]; rfl, B2⟩
theorem refRead_255 (s : ByteArray) (b : UInt8) (t : List UInt8) (hl : s.data.toList = b :: t) (hs : s.size ≤ 1000000) (hb : b = 255) (w : World) :
    Calls Try.prog 49 #[.string s] w fun e w' => e = .returned (getV (readF s.data.toList)) ∧ Below w.heap.size w w' := by
  have hz : s.size = t.length + 1 := by rw [← ba_len, hl]; rfl
  have h0 := ba_head s b t hl (by omega)
  have ht := ba_tail s b t hl
  have hbn : (b.toNat : Int) = 255 := by rw [hb]; rfl
  have hwl : wideL b = 8 := by rw [hb]; rfl
  have hnb : ¬ b.toNat < 253 := by omega
  have hF : readF s.data.toList = if t.length < 8 then (0, [], 30) else if (cmpL (getN (t.take 8))).length = 8 + 1 then (getN (t.take 8), t.drop 8, 0) else (0, [], 31) := by rw [hl]; simp only [readF, hwl, if_neg hnb]
  obtain ⟨r, hr⟩ : ∃ r, readF s.data.toList = r := ⟨_, rfl⟩
  rw [hr]
  rw [hr] at hF
  have d1 : ((s.size : Int) == 0) = false := beq_eq_false_iff_ne.mpr (by omega)
  have d2 : ((b.toNat : Int) == 253) = false := by rw [hbn]; rfl
  have d3 : ((b.toNat : Int) == 254) = false := by rw [hbn]; rfl
  have d4 : ((b.toNat : Int) == 255) = true := by rw [hbn]; rfl
  have hsl : ∀ W, (Instr.slice 9 (.string s) (some (.int .i64 1)) none none).run Try.prog W = .ok (.string ⟨t.toArray⟩) W := fun W => by
    rw [run_slice_string_from_if W 9 s .i64 _ Try.underlying9, if_pos (by omega), ← ht]; rfl
  have HL := Lib.hid hl
  clear hl
  go_enter Try.func49, Try.ntmps49
  go_wp2_with fail
  refine (refGet_any ⟨t.toArray⟩ (by rw [← ba_len]; show t.length ≤ 1000000; omega) 8 _).mono ?_
  rintro e w1 ⟨rfl, b1⟩
  by_cases hsh : t.length < 8
  · rw [show getF (ByteArray.mk t.toArray).data.toList 8 = (0, [], 30) by simp [getF]; omega, getV_mk]
    rw [if_pos hsh] at hF
    go_wp2
    go_ret3
    exact ⟨by rw [hF]; rfl, b1⟩
  · rw [show getF (ByteArray.mk t.toArray).data.toList 8 = (getN (t.take 8), t.drop 8, 0) by simp [getF]; omega, getV_mk]
    rw [if_neg hsh] at hF
    go_wp2_with fail
    refine (refCompact_any (getN (t.take 8)) _).mono ?_
    rintro e w2 ⟨rfl, b2⟩
    have B2 := b1.trans (b2.mono b1.size)
    have hcl : (ByteArray.mk (cmpL (getN (t.take 8))).toArray).size = (cmpL (getN (t.take 8))).length := by rw [← ba_len]
    by_cases hc : (cmpL (getN (t.take 8))).length = 8 + 1
    · rw [if_pos hc] at hF
      rw [hc] at hcl
      go_wp2
      go_ret3
      exact ⟨by rw [hF]; rfl, B2⟩
    · rw [if_neg hc] at hF
      go_wp2
      go_ret3
      exact ⟨by rw [hF]; rfl, B2⟩
theorem refRead_any (s : ByteArray) (hs : s.size ≤ 1000000) (w : World) :
    Calls Try.prog 49 #[.string s] w fun e w' => e = .returned (getV (readF s.data.toList)) ∧ Below w.heap.size w w' := by
  cases hl : s.data.toList with
  | nil => rw [← hl]; exact refRead_nil s hl w
  | cons b t =>
    rw [← hl]
    by_cases h : b.toNat < 253
    · exact refRead_one s b t hl h w
    · have hb := b.toNat_lt
      have h3 : b = 253 ∨ b = 254 ∨ b = 255 := by
        have : b.toNat = 253 ∨ b.toNat = 254 ∨ b.toNat = 255 := by omega
        rcases this with e | e | e
        · exact .inl (UInt8.toNat_inj.mp e)
        · exact .inr (.inl (UInt8.toNat_inj.mp e))
        · exact .inr (.inr (UInt8.toNat_inj.mp e))
      rcases h3 with e | e | e
      · exact refRead_253 s b t hl hs e w
      · exact refRead_254 s b t hl hs e w
      · exact refRead_255 s b t hl hs e w
end Go.Proofs.Ytgcopgnkfokphaa
