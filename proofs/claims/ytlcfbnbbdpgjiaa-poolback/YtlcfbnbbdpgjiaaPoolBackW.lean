
/- PoolBack: the walk of the statement's function. -/
import Derived.Test.YtlcfbnbbdpgjiaaRows
import Derived.Test.YtlcfbnbbdpgjiaaBack
namespace Go.Proofs.Ytlcfbnbbdpgjiaa
set_option linter.unusedVariables false
set_option linter.unusedSimpArgs false
open Go.RowKit Go.Maps

theorem Is.open {w : World} {v : Value} {l : List Int} (h : Is w v l) : ∃ a c, v = .slice a l.length c ∧ l.length ≤ c ∧ c ≤ maxLen ∧ (l ≠ [] → ∃ b off, a = some ⟨b, off, none⟩ ∧ b < w.heap.size ∧ ∀ i (h : i < l.length), w.cell? ⟨b, off + i, none⟩ = some (.int .i64 l[i])) := by
  obtain ⟨a, c, e, h1, h2, h3⟩ := h
  rw [i64s_length] at e h1
  refine ⟨a, c, e, h1, h2, fun hne => ?_⟩
  obtain ⟨b, off, e1, hb, hc⟩ := h3 (by simpa [i64s] using hne)
  exact ⟨b, off, e1, hb, fun i hi => by rw [hc i (by rw [i64s_length]; exact hi)]; simp [i64s]⟩
theorem Ss.open {w : World} {v : Value} {l : List ByteArray} (h : Ss w v l) : ∃ a c, v = .slice a l.length c ∧ (l ≠ [] → ∃ b off, a = some ⟨b, off, none⟩ ∧ b < w.heap.size ∧ ∀ i (h : i < l.length), w.cell? ⟨b, off + i, none⟩ = some (.string l[i])) := by
  obtain ⟨a, c, e, h1, h2, h3⟩ := h
  rw [strs_length] at e
  refine ⟨a, c, e, fun hne => ?_⟩
  obtain ⟨b, off, e1, hb, hc⟩ := h3 (by simpa [strs] using hne)
  exact ⟨b, off, e1, hb, fun i hi => by rw [hc i (by rw [strs_length]; exact hi)]; simp [strs]⟩
theorem Bss.open {w : World} {v : Value} {ls : List (List UInt8)} (h : Bss w v ls) : ∃ a c, v = .slice a ls.length c ∧ (ls ≠ [] → ∃ b off, a = some ⟨b, off, none⟩ ∧ b < w.heap.size ∧ ∀ i (h : i < ls.length), ∃ x, w.cell? ⟨b, off + i, none⟩ = some x ∧ Bs w x ls[i]) := by
  obtain ⟨vs, hvl, ⟨a, c, e, h1, h2, h3⟩, hb⟩ := h
  rw [hvl] at e
  refine ⟨a, c, e, fun hne => ?_⟩
  obtain ⟨b, off, e1, hbl, hc⟩ := h3 (by intro e; subst e; simp at hvl; exact hne (List.eq_nil_of_length_eq_zero hvl.symm))
  exact ⟨b, off, e1, hbl, fun i hi => ⟨vs[i], hc i (by omega), hb i hi (by omega)⟩⟩

theorem str_back (s : ByteArray) : (ByteArray.toList ⟨s.data.toList.toArray⟩ == s.toList) = true := by
  rw [str_eq]; simp

set_option maxRecDepth 100000 in
set_option maxHeartbeats 4000000 in
theorem poolBack_long (v : Value) (ss : List ByteArray) (u : Value) (ls : List (List UInt8)) (w : World) (hv : Ss w v ss) (hz : ss.length ≤ 8796093021952) (hm : ∀ s ∈ ss, s.size ≤ maxLen) (hu : Bss w u ls) (hl : longB (tls ss) = true ∨ longB ls = true) :
    Calls Try.prog 7 #[v, u] w fun e w' => e = .returned (.bool true) ∧ Below w.heap.size w w' := by
  have HV : Hid (Ss w v ss) := hv
  have HU : Hid (Bss w u ls) := hu
  have HM : Hid (∀ s ∈ ss, s.size ≤ maxLen) := hm
  obtain ⟨a, cap, ev, -⟩ := hv.open
  obtain ⟨ua, ucap, eu, -⟩ := hu.open
  subst ev eu
  clear hm hv hu
  cases hl1 : longB (tls ss) with
  | true =>
    clear hl
    go_enter Try.func7, Try.ntmps7
    go_wp2_with fail
    refine (wakes2_any _).mono ?_
    rintro e w1 ⟨rfl, hb1⟩
    have HB1 : Hid (Below w.heap.size w w1) := hb1
    have hs1 := hb1.size
    clear hb1
    go_wp2_with fail
    refine (texts_any (HV.out.later HB1.out) hz HM.out).mono ?_
    rintro e w2 ⟨v2, rfl, hb2, hl2⟩
    have HB2 : Hid (Below w.heap.size w w2) := HB1.out.trans (hl2.mono hs1)
    have HBS : Hid (Bss w2 v2 (tls ss)) := hb2
    clear hb2 hl2
    go_wp2_with fail
    refine (long_any HBS.out).mono ?_
    rintro e wz ⟨rfl, hzz⟩
    subst wz
    rw [hl1]
    go_wp2_with fail
    go_ret
    exact ⟨rfl, HB2.out⟩
  | false =>
    have hl2' : longB ls = true := by rcases hl with h | h; · rw [hl1] at h; simp at h
                                      · exact h
    clear hl
    go_enter Try.func7, Try.ntmps7
    go_wp2_with fail
    refine (wakes2_any _).mono ?_
    rintro e w1 ⟨rfl, hb1⟩
    have HB1 : Hid (Below w.heap.size w w1) := hb1
    have hs1 := hb1.size
    clear hb1
    go_wp2_with fail
    refine (texts_any (HV.out.later HB1.out) hz HM.out).mono ?_
    rintro e w2 ⟨v2, rfl, hb2, hl2⟩
    have HB2 : Hid (Below w.heap.size w w2) := HB1.out.trans (hl2.mono hs1)
    have HBS : Hid (Bss w2 v2 (tls ss)) := hb2
    clear hb2 hl2
    go_wp2_with fail
    refine (long_any HBS.out).mono ?_
    rintro e wz ⟨rfl, hzz⟩
    subst wz
    rw [hl1]
    go_wp2_with fail
    refine (long_any (HU.out.later HB2.out)).mono ?_
    rintro e wz ⟨rfl, hzz⟩
    subst wz
    rw [hl2']
    go_wp2_with fail
    go_ret
    exact ⟨rfl, HB2.out⟩

set_option maxRecDepth 100000 in
set_option maxHeartbeats 8000000 in
theorem poolBack_short (v : Value) (ss : List ByteArray) (u : Value) (ls : List (List UInt8)) (w : World) (hv : Ss w v ss) (hz : ss.length ≤ 8796093021952) (hm : ∀ s ∈ ss, s.size ≤ maxLen) (hu : Bss w u ls) (hl1 : longB (tls ss) = false) (hl2' : longB ls = false) :
    Calls Try.prog 7 #[v, u] w fun e w' => e = .returned (.bool true) ∧ Below w.heap.size w w' := by
  have HV : Hid (Ss w v ss) := hv
  have HU : Hid (Bss w u ls) := hu
  have HM : Hid (∀ s ∈ ss, s.size ≤ maxLen) := hm
  obtain ⟨a, cap, ev, -⟩ := hv.open
  obtain ⟨ua, ucap, eu, -⟩ := hu.open
  subst ev eu
  obtain ⟨hn60, hs300⟩ := long_no hl1
  obtain ⟨hm60, hz2⟩ := longs_no hl2'
  have HZ2 : Hid (∀ l ∈ ls, l.length ≤ 300) := hz2
  have HL2 : Hid ((pall encB ls).ats.length = ls.length) := (good_all encB (fun s _ => by have := (pkL_le s.length).1; simp [encB]; omega) ls).len
  have HFB : Hid ((pall encB ls).B.length ≤ 65536) := by
    have := blobs_fit ls hm60 hz2 ls.length (Nat.le_refl _); rw [List.take_of_length_le (Nat.le_refl _)] at this; exact this
  clear hm hv hu hs300 hz2
  cases hall : (tls ss).all fineB with
  | true =>
    have HL1 : Hid ((pall encN (tls ss)).ats.length = ss.length) := by
      have := (good_all encN (fun s _ => by simp [encN]) (tls ss)).len; rw [tls_length] at this; exact this
    have HFN : Hid ((pall encN (tls ss)).B.length ≤ 65536) := by
      have := names_fit ss hall hn60 ss.length (Nat.le_refl _); rw [List.take_of_length_le (by rw [tls_length]; exact Nat.le_refl _)] at this; exact this
    go_enter Try.func7, Try.ntmps7
    go_wp2_with fail
    refine (wakes2_any _).mono ?_
    rintro e w1 ⟨rfl, hb1⟩
    have HB1 : Hid (Below w.heap.size w w1) := hb1
    have hs1 := hb1.size
    clear hb1
    go_wp2_with fail
    refine (texts_any (HV.out.later HB1.out) hz HM.out).mono ?_
    rintro e w2 ⟨v2, rfl, hb2, hl2⟩
    have HB2 : Hid (Below w.heap.size w w2) := HB1.out.trans (hl2.mono hs1)
    have HBS : Hid (Bss w2 v2 (tls ss)) := hb2
    have hs2 := HB2.out.size
    clear hb2 hl2
    go_wp2_with fail
    refine (long_any HBS.out).mono ?_
    rintro e wz ⟨rfl, hzz⟩
    subst wz
    rw [hl1]
    go_wp2_with fail
    refine (long_any (HU.out.later HB2.out)).mono ?_
    rintro e wz ⟨rfl, hzz⟩
    subst wz
    rw [hl2']
    go_wp2_with fail
    refine (names_yes (HV.out.later HB2.out) hz hall (names_fit ss hall hn60)).mono ?_
    rintro e w5 ⟨bv, av, rfl, hb5, hi5, hl5⟩
    have HB5 : Hid (Below w.heap.size w w5) := HB2.out.trans (hl5.mono hs2)
    have HBV5 : Hid (Bs w5 bv (pall encN (tls ss)).B) := hb5
    have HAV5 : Hid (Is w5 av (ints (pall encN (tls ss)).ats)) := hi5
    have hs5 := HB5.out.size
    clear hb5 hi5 hl5
    go_wp2_with fail
    refine (blobs_yes (HU.out.later HB5.out) hm60 HZ2.out).mono ?_
    rintro e w6 ⟨cv, tv, rfl, hb6, hi6, hl6⟩
    have HB6 : Hid (Below w.heap.size w w6) := HB5.out.trans (hl6.mono hs5)
    have hs6 := HB6.out.size
    have HBB : Hid (Bs w6 cv (pall encB ls).B) := hb6
    obtain ⟨ta, tc, etv, htc1, htc2, htcell⟩ := hi6.open
    rw [ints_length, HL2.out] at etv htc1
    subst etv
    have HTC : Hid _ := htcell
    obtain ⟨ua', uc', eu', hucell⟩ := (HU.out.later HB6.out).open
    simp only [Value.slice.injEq] at eu'
    obtain ⟨e1u, -, -⟩ := eu'
    subst e1u
    have HUC : Hid _ := hucell
    have HBN : Hid (Bs w6 bv (pall encN (tls ss)).B) := HBV5.out.later hl6
    obtain ⟨aa, ac, eav, hac1, hac2, hacell⟩ := (show Is w6 av (ints (pall encN (tls ss)).ats) from HAV5.out.later hl6).open
    rw [ints_length, HL1.out] at eav hac1
    subst eav
    have HAC : Hid _ := hacell
    obtain ⟨a', c', ev', hscell⟩ := (show Ss w6 (.slice a ss.length cap) ss from HV.out.later HB6.out).open
    simp only [Value.slice.injEq] at ev'
    obtain ⟨e1v, -, -⟩ := ev'
    subst e1v
    have HSC : Hid _ := hscell
    clear hb6 hi6 hl6 htcell hucell hacell hscell
    go_wp2_with fail
    go_loopw [42] (fun i wr => ∃ k : Nat, k ≤ ss.length ∧ i = .int .i64 k ∧ wr = w6) (fun i _ => ss.length - (intOf i).toNat)
    case atStart => exact ⟨0, Nat.zero_le _, rfl, rfl⟩
    case round =>
      obtain ⟨k, hk, rfl, hwr⟩ := hrel
      subst wr
      by_cases hlt : k < ss.length
      · have hg1 : k < (pall encN (tls ss)).ats.length := by rw [HL1.out]; exact hlt
        obtain ⟨ab, aoff, eaa, -, hac⟩ := HAC.out (by intro e; have := congrArg List.length e; rw [ints_length, HL1.out] at this; simp only [List.length_nil] at this; omega)
        subst eaa
        have hck := hac k (by rw [ints_length]; exact hg1)
        rw [ints_get _ _ hg1] at hck
        obtain ⟨sb, soff, esa, -, hsc⟩ := HSC.out (by intro e; have := congrArg List.length e; simp only [List.length_nil] at this; omega)
        subst esa
        have hsk := hsc k hlt
        obtain ⟨hS, hE⟩ := names_back (tls ss) hall k (by rw [tls_length]; exact hlt) hg1
        rw [tls_get ss k hlt] at hS
        have HNA : Hid _ := name_any HBN.out (Nat.le_trans HFN.out (by decide)) ((pall encN (tls ss)).ats[k] : Int)
        rw [hS, hE] at HNA
        clear hS hE hac hsc
        generalize (pall encN (tls ss)).ats[k] = at1 at *
        generalize ss[k] = s at *
        have hsq := str_back s
        go_wp2_with fail
        refine Calls.mono HNA.out ?_
        rintro e wz ⟨rfl, hzz⟩
        subst wz
        go_wp2_with fail
        go_roundw
        case rel => exact ⟨k + 1, by omega, by go_num, by simp⟩
        case measure => simp [intOf]; omega
      · go_wp2_with fail
        go_loopw [71] (fun i wr => ∃ k : Nat, k ≤ ls.length ∧ i = .int .i64 k ∧ Below w6.heap.size w6 wr) (fun i _ => ls.length - (intOf i).toNat)
        case atStart => exact ⟨0, Nat.zero_le _, rfl, Below.refl _ _⟩
        case round =>
          obtain ⟨k2, hk2, rfl, hbk⟩ := hrel
          have HBK : Hid (Below w6.heap.size w6 wr) := hbk
          have hsk := hbk.size
          clear hbk
          by_cases hlt2 : k2 < ls.length
          · have hg2 : k2 < (pall encB ls).ats.length := by rw [HL2.out]; exact hlt2
            obtain ⟨tb, toff, eta, htb, htc⟩ := HTC.out (by intro e; have := congrArg List.length e; rw [ints_length, HL2.out] at this; simp only [List.length_nil] at this; omega)
            subst eta
            have htk := htc k2 (by rw [ints_length]; exact hg2)
            rw [ints_get _ _ hg2] at htk
            have htk' : wr.cell? ⟨tb, toff + k2, none⟩ = some (.int .i64 ((pall encB ls).ats[k2] : Int)) := by
              rw [← htk]; exact World.cell?_of_block (HBK.out.block tb htb)
            obtain ⟨ub, uoff, eua, hub, huc⟩ := HUC.out (by intro e; have := congrArg List.length e; simp only [List.length_nil] at this; omega)
            subst eua
            obtain ⟨x, hxc, hxb⟩ := huc k2 hlt2
            have hxc' : wr.cell? ⟨ub, uoff + k2, none⟩ = some x := by
              rw [← hxc]; exact World.cell?_of_block (HBK.out.block ub hub)
            have HXB : Hid (Bs w6 x ls[k2]) := hxb
            obtain ⟨hS, hE⟩ := blobs_back ls HZ2.out k2 hlt2 hg2
            have HBA : Hid _ := blob_any (HBB.out.later HBK.out) (Nat.le_trans (HFB.out) (by decide)) ((pall encB ls).ats[k2] : Int)
            rw [hS, hE] at HBA
            clear htk hxc hxb hS hE huc htc
            generalize (pall encB ls).ats[k2] = at2 at *
            generalize ls[k2] = lk at *
            obtain ⟨xa, xc, ex, -⟩ := HXB.out
            subst ex
            go_wp2_with fail
            refine Calls.mono HBA.out ?_
            rintro e w7 ⟨v7, rfl, hb7, hl7⟩
            have HB7 : Hid (Below w6.heap.size w6 w7) := HBK.out.trans (hl7.mono hsk)
            have HV7 : Hid (Bs w7 v7 lk) := hb7
            have hxc7 : w7.cell? ⟨ub, uoff + k2, none⟩ = some (.slice xa lk.length xc) := by
              rw [← hxc']; exact World.cell?_of_block (hl7.block ub (by omega))
            obtain ⟨ya, yc, ey, -⟩ := hb7
            subst ey
            clear hl7 htk' hxc'
            go_wp2_with fail
            refine (same_any HV7.out (HXB.out.later HB7.out)).mono ?_
            rintro e w8 ⟨rfl, n8, rfl⟩
            have ht : decide (lk = lk) = true := by simp
            rw [ht]
            clear ht
            go_wp2_with fail
            go_roundw
            case rel => exact ⟨k2 + 1, by omega, by go_num, Below.drewN HB7.out n8⟩
            case measure => simp [intOf]; omega
          · go_wp2_with fail
            go_ret
            exact ⟨rfl, HB6.out.trans (HBK.out.mono hs6)⟩
  | false =>
    go_enter Try.func7, Try.ntmps7
    go_wp2_with fail
    refine (wakes2_any _).mono ?_
    rintro e w1 ⟨rfl, hb1⟩
    have HB1 : Hid (Below w.heap.size w w1) := hb1
    have hs1 := hb1.size
    clear hb1
    go_wp2_with fail
    refine (texts_any (HV.out.later HB1.out) hz HM.out).mono ?_
    rintro e w2 ⟨v2, rfl, hb2, hl2⟩
    have HB2 : Hid (Below w.heap.size w w2) := HB1.out.trans (hl2.mono hs1)
    have HBS : Hid (Bss w2 v2 (tls ss)) := hb2
    have hs2 := HB2.out.size
    clear hb2 hl2
    go_wp2_with fail
    refine (long_any HBS.out).mono ?_
    rintro e wz ⟨rfl, hzz⟩
    subst wz
    rw [hl1]
    go_wp2_with fail
    refine (long_any (HU.out.later HB2.out)).mono ?_
    rintro e wz ⟨rfl, hzz⟩
    subst wz
    rw [hl2']
    go_wp2_with fail
    refine (names_no (HV.out.later HB2.out) hz hall).mono ?_
    rintro e w5 ⟨rfl, hw5⟩
    have HB5 : Hid (Below w.heap.size w w5) := by rw [hw5]; exact HB2.out
    have hs5 := HB5.out.size
    clear hw5
    go_wp2_with fail
    refine (blobs_yes (HU.out.later HB5.out) hm60 HZ2.out).mono ?_
    rintro e w6 ⟨cv, tv, rfl, hb6, hi6, hl6⟩
    have HB6 : Hid (Below w.heap.size w w6) := HB5.out.trans (hl6.mono hs5)
    have hs6 := HB6.out.size
    have HBB : Hid (Bs w6 cv (pall encB ls).B) := hb6
    obtain ⟨ta, tc, etv, htc1, htc2, htcell⟩ := hi6.open
    rw [ints_length, HL2.out] at etv htc1
    subst etv
    have HTC : Hid _ := htcell
    obtain ⟨ua', uc', eu', hucell⟩ := (HU.out.later HB6.out).open
    simp only [Value.slice.injEq] at eu'
    obtain ⟨e1u, -, -⟩ := eu'
    subst e1u
    have HUC : Hid _ := hucell
    clear hb6 hi6 hl6 htcell hucell
    go_wp2_with fail
    go_loopw [71] (fun i wr => ∃ k : Nat, k ≤ ls.length ∧ i = .int .i64 k ∧ Below w6.heap.size w6 wr) (fun i _ => ls.length - (intOf i).toNat)
    case atStart => exact ⟨0, Nat.zero_le _, rfl, Below.refl _ _⟩
    case round =>
      obtain ⟨k2, hk2, rfl, hbk⟩ := hrel
      have HBK : Hid (Below w6.heap.size w6 wr) := hbk
      have hsk := hbk.size
      clear hbk
      by_cases hlt2 : k2 < ls.length
      · have hg2 : k2 < (pall encB ls).ats.length := by rw [HL2.out]; exact hlt2
        obtain ⟨tb, toff, eta, htb, htc⟩ := HTC.out (by intro e; have := congrArg List.length e; rw [ints_length, HL2.out] at this; simp only [List.length_nil] at this; omega)
        subst eta
        have htk := htc k2 (by rw [ints_length]; exact hg2)
        rw [ints_get _ _ hg2] at htk
        have htk' : wr.cell? ⟨tb, toff + k2, none⟩ = some (.int .i64 ((pall encB ls).ats[k2] : Int)) := by
          rw [← htk]; exact World.cell?_of_block (HBK.out.block tb htb)
        obtain ⟨ub, uoff, eua, hub, huc⟩ := HUC.out (by intro e; have := congrArg List.length e; simp only [List.length_nil] at this; omega)
        subst eua
        obtain ⟨x, hxc, hxb⟩ := huc k2 hlt2
        have hxc' : wr.cell? ⟨ub, uoff + k2, none⟩ = some x := by
          rw [← hxc]; exact World.cell?_of_block (HBK.out.block ub hub)
        have HXB : Hid (Bs w6 x ls[k2]) := hxb
        obtain ⟨hS, hE⟩ := blobs_back ls HZ2.out k2 hlt2 hg2
        have HBA : Hid _ := blob_any (HBB.out.later HBK.out) (Nat.le_trans (HFB.out) (by decide)) ((pall encB ls).ats[k2] : Int)
        rw [hS, hE] at HBA
        clear htk hxc hxb hS hE huc htc
        generalize (pall encB ls).ats[k2] = at2 at *
        generalize ls[k2] = lk at *
        obtain ⟨xa, xc, ex, -⟩ := HXB.out
        subst ex
        go_wp2_with fail
        refine Calls.mono HBA.out ?_
        rintro e w7 ⟨v7, rfl, hb7, hl7⟩
        have HB7 : Hid (Below w6.heap.size w6 w7) := HBK.out.trans (hl7.mono hsk)
        have HV7 : Hid (Bs w7 v7 lk) := hb7
        have hxc7 : w7.cell? ⟨ub, uoff + k2, none⟩ = some (.slice xa lk.length xc) := by
          rw [← hxc']; exact World.cell?_of_block (hl7.block ub (by omega))
        obtain ⟨ya, yc, ey, -⟩ := hb7
        subst ey
        clear hl7 htk' hxc'
        go_wp2_with fail
        refine (same_any HV7.out (HXB.out.later HB7.out)).mono ?_
        rintro e w8 ⟨rfl, n8, rfl⟩
        have ht : decide (lk = lk) = true := by simp
        rw [ht]
        clear ht
        go_wp2_with fail
        go_roundw
        case rel => exact ⟨k2 + 1, by omega, by go_num, Below.drewN HB7.out n8⟩
        case measure => simp [intOf]; omega
      · go_wp2_with fail
        go_ret
        exact ⟨rfl, HB6.out.trans (HBK.out.mono hs6)⟩

theorem poolBack_walk (v : Value) (ss : List ByteArray) (u : Value) (ls : List (List UInt8)) (w : World) (hv : Ss w v ss) (hz : ss.length ≤ 8796093021952) (hm : ∀ s ∈ ss, s.size ≤ maxLen) (hu : Bss w u ls) :
    Calls Try.prog 7 #[v, u] w fun e w' => e = .returned (.bool true) ∧ Below w.heap.size w w' := by
  cases h1 : longB (tls ss) with
  | true => exact poolBack_long v ss u ls w hv hz hm hu (.inl h1)
  | false =>
    cases h2 : longB ls with
    | true => exact poolBack_long v ss u ls w hv hz hm hu (.inr h2)
    | false => exact poolBack_short v ss u ls w hv hz hm hu h1 h2

end Go.Proofs.Ytlcfbnbbdpgjiaa
