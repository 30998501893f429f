/-
  Proved: impl.FreeVars collects the free variables of an expression, in new memory; the memory that was there stays as it was.
-/
import Derived.Test.YtcohfbdhdngplaaCntAt
import Derived.Test.YtcohfbdhdngplaaSzExpr
namespace Go.Proofs.Ytcohfbdhdngplaa
open Go.RowKit Go.Maps Go.WideMaps

/-- What a collection leaves. -/
def FreeEnd (w0 : World) (bc bf : Nat) (w : World) (o : Value) (L : List ByteArray) (c : ByteArray → Int) (nc : Nat) (t : Ex) (e : Ending) (w' : World) : Prop :=
  ∃ o' nc', e = .returned o' ∧ FreeSt w0 bc bf w' o' (t.coll L c) c nc' ∧ nc' ≤ nc + 2 * (1 + t.bulk) ∧ Moves bc bf w w' o o'
set_option maxRecDepth 100000 in
set_option maxHeartbeats 4000000 in
theorem implFreeIn (w0 : World) (bc bf : Nat) : ∀ (d : Nat), ∀ (v : Value) (t : Ex) (w : World) (o : Value) (L : List ByteArray) (c : ByteArray → Int) (nc : Nat), ExAt w0 d v t → FreeSt w0 bc bf w o L c nc → (∀ x, 0 ≤ c x) → (∀ x, c x + t.bulk ≤ 1048577) → L.length + 1 + t.bulk ≤ 1048577 → nc + 2 * (1 + t.bulk) ≤ 4194304 → Calls Try.prog 55 #[o, v, .map (some bc), .map (some bf)] w (FreeEnd w0 bc bf w o L c nc t)
  | 0, _, _, _, _, _, _, _, h, _, _, _, _, _ => h.elim
  | d + 1, v, .node kd nm n ty es, w, o, L, c, nc, h, hs, hc0, hcm, hlm, hnm2 => by
    have IH : Hid (∀ (v : Value) (t : Ex) (w : World) (o : Value) (L : List ByteArray) (c : ByteArray → Int) (nc : Nat), ExAt w0 d v t → FreeSt w0 bc bf w o L c nc → (∀ x, 0 ≤ c x) → (∀ x, c x + t.bulk ≤ 1048577) → L.length + 1 + t.bulk ≤ 1048577 → nc + 2 * (1 + t.bulk) ≤ 4194304 → Calls Try.prog 55 #[o, v, .map (some bc), .map (some bf)] w (FreeEnd w0 bc bf w o L c nc t)) := implFreeIn w0 bc bf d
    obtain ⟨i0, hi, hz0, hz1, hz2⟩ := info_parts info_str
    have HI := Lib.hid hi; clear hi
    have HZ0 := Lib.hid hz0; clear hz0
    have HZ1 := Lib.hid hz1; clear hz1
    have HZ2 := Lib.hid hz2; clear hz2
    have HV := ex_parts h
    obtain ⟨c3, c4, sl, rfl, hk0, hk1, hn0, hn1, hnm, hty, a, cap, rfl, hcap, hcap2, hat⟩ := h
    obtain ⟨k', nm', n', tk, ta, tn, tc, sa, sn, sc, hv⟩ := HV
    injection hv with hv
    injection hv with hv
    simp at hv
    obtain ⟨rfl, rfl, rfl, rfl, rfl, rfl, rfl, rfl⟩ := hv
    have HAT := Lib.hid hat; clear hat
    have hbk : (Ex.node kd nm n ty es).bulk = nm.size + (ty.size - 1) + Ex.bulks es := rfl
    have HBK := Lib.hid hbk; clear hbk
    have hlen : es.length ≤ 1048576 := by have h1 := Ex.length_le es; have h2 := HBK.out; omega
    have HNM := Lib.hid hnm; clear hnm
    have hbc : bc < w.heap.size := by have := hs.2.2.2.2.2; omega
    have hbf : bf < w.heap.size := hs.2.2.2.2.2.2
    have hbb : bc < bf := hs.2.2.2.2.2.1
    have HC0 := Lib.hid hc0; clear hc0
    have HCM := Lib.hid hcm; clear hcm
    have HLM := Lib.hid hlm; clear hlm
    have HN2 := Lib.hid hnm2; clear hnm2
    have hcnm0 : 0 ≤ c nm := HC0.out nm
    have hcnm1 : c nm + 1 ≤ 1048578 := by have := HCM.out nm; omega
    clear hty
    by_cases q2 : kd = 2
    · subst q2
      have HA := Lib.hid (hs.alloc (.cells #[.int .i64 2, .string nm, .int .i64 n, .int .i64 tk, .slice ta tn tc, .slice a es.length cap] 36))
      have HMV := Lib.hid (Moves.alloc bc bf w (.cells #[.int .i64 2, .string nm, .int .i64 n, .int .i64 tk, .slice ta tn tc, .slice a es.length cap] 36) o)
      have HBX : Hid ((w.alloc (.cells #[.int .i64 2, .string nm, .int .i64 n, .int .i64 tk, .slice ta tn tc, .slice a es.length cap] 36)).heap[w.heap.size]? = (w.alloc (.cells #[.int .i64 2, .string nm, .int .i64 n, .int .i64 tk, .slice ta tn tc, .slice a es.length cap] 36)).heap[w.heap.size]?) := rfl
      have HNS := Lib.hid (SetAt.lt HA.out.2.2.2.1)
      have hkey : keyOf Try.prog 9 (.string nm) = some (.string nm.data.toList) := keyOf_string_mk Try.underlying9 HNM.out
      have HK := Lib.hid hkey; clear hkey
      clear hs
      by_cases hp : 0 < c nm
      · have HFE : Hid ((Ex.node 2 nm n ty es).coll L c = L) := by show _ = _; simp [Ex.coll, hp]
        have hp2 : decide (0 < c nm) = true := by simp [hp]
        go_enter Try.func55, Try.ntmps55
        go_wp2_with (first
          | (at_lookup; refine cnt_lookup _ rfl _ _ rfl rfl HA.out.2.2.1 nm HNM.out rfl ?_))
        go_ret
        exact ⟨_, nc, rfl, by rw [HFE.out]; exact HA.out, by omega, HMV.out⟩
      · have hp2 : decide (0 < c nm) = false := by simp [hp]
        have HL0 : Hid (L.length ≤ 1048576) := by show _ ≤ _; have := HLM.out; omega
        cases hq : seenB L nm.data.toList with
        | true =>
          have HFE : Hid ((Ex.node 2 nm n ty es).coll L c = L) := by show _ = _; simp [Ex.coll, hp, addN, hq]
          have HQ := Lib.hid hq
          go_enter Try.func55, Try.ntmps55
          go_wp2_with (first
            | (at_lookup; refine cnt_lookup _ rfl _ _ rfl rfl HA.out.2.2.1 nm HNM.out rfl ?_)
            | (at_lookup; refine set_lookup_w _ (by first | rfl | kernel_rfl) _ _ 99 rfl law_str Try.underlying99 Try.underlying4 (zero_bool _) rfl HA.out.2.2.2.1 _ nm.data.toList rfl HK.out ?_; rw [HQ.out]))
          go_ret
          exact ⟨_, nc, rfl, by rw [HFE.out]; exact HA.out, by omega, HMV.out⟩
        | false =>
          have HFE : Hid ((Ex.node 2 nm n ty es).coll L c = L ++ [nm]) := by show _ = _; simp [Ex.coll, hp, addN, hq]
          have HQ := Lib.hid hq
          have hll : L.length ≤ 1048576 := HL0.out
          have HNE := Lib.hid HA.out.own_ne
          have HO := Lib.hid HA.out.2.1
          go_enter Try.func55, Try.ntmps55
          go_wp2_with (first
            | (at_lookup; refine cnt_lookup _ rfl _ _ rfl rfl HA.out.2.2.1 nm HNM.out rfl ?_)
            | (at_lookup; refine set_lookup_w _ (by first | rfl | kernel_rfl) _ _ 99 rfl law_str Try.underlying99 Try.underlying4 (zero_bool _) rfl HA.out.2.2.2.1 _ nm.data.toList rfl HK.out ?_; rw [HQ.out])
            | (at_mapUpdate; refine set_store _ rfl _ _ _ 99 rfl law_str Try.underlying99 Try.underlying4 rfl HA.out.2.2.2.1 (by unfold maxLen; omega) _ nm.data.toList rfl true rfl HK.out (fun _ h => by injection h) trivial ?_; intro w1 hset1 hg1; have b1 := box_at_heap (hg1.block w.heap.size (by simp) (fun e => by injection e with e; omega)) 1)
            | (at_builtin; go_must (refine wpList_append_own_at _ rfl _ _ 29 rfl (bf + 1) 9 i0 (.string ⟨#[]⟩) 1 16 Try.underlying29 HI.out HZ0.out HZ1.out HZ2.out rfl (by decide) _ _ _ rfl ((HO.out.kept hg1 (Or.inr HNE.out.2)).alloc _) ⟨w1.heap.size, 0, none⟩ 1 1 [.string nm] rfl rfl (news_str _ _ _) (by simp [Value.oneCell']) (by unfold maxLen; omega) (by omega) (by have := hg1.size; simp at this; simp; omega) ?_); intro v2 w2 hown2 hg2 _ hblk2; refine Hid.out ?_))
          refine Lib.hid ?_
          have hz1 := hg1.size
          simp only [World.size_alloc] at hz1
          have hz2 := hg2.size
          simp only [World.size_alloc] at hz2
          have ho1 := HO.out.kept hg1 (Or.inr HNE.out.2)
          have hn1 : NamesAt w1 bf (L.length + 1) (L ++ [nm]) := by
            show SetAt _ _ _ _ _ _ _ _
            rw [← seenB_put]; exact hset1
          have hbo : o.ownBlock ≠ some bf := HNE.out.2
          have hbo2 : o.ownBlock ≠ some bc := HNE.out.1
          have hold : ∀ k, k < w1.heap.size → o.ownBlock ≠ some k → w2.heap[k]? = w1.heap[k]? := fun k k1 k2 => by
            rw [hg2.block k (by simp; omega) (fun e => k2 e.symm)]
            exact heap_alloc_old _ _ k1
          have hn2 : NamesAt w2 bf (L ++ [nm]).length (L ++ [nm]) := by
            rw [List.length_append]
            exact SetAt.kept hn1 (hold bf (by omega) hbo)
          have hc1 : CntAt w1 bc nc c := HA.out.2.2.1.kept (hg1.block bc (by simp; omega) (fun e => by injection e with e; omega))
          have hc2 : CntAt w2 bc nc c := hc1.kept (hold bc (by omega) hbo2)
          have hB : w0.heap.size ≤ bc := HA.out.2.2.2.2.1
          have hb1 : Below w0.heap.size w0 w1 := HA.out.1.grown hg1 HA.out.1.size (fun j hj => by injection hj with hj; omega)
          have hb2 : Below w0.heap.size w0 w2 := (hb1.alloc hb1.size _).grown hg2 (by have := hb1.size; simp; omega) (fun k hk => by have := (ho1.lt k hk).1; omega)
          have hown3 : w2.ownsRow (bf + 1) 9 1 v2 (L ++ [nm]).length ((L ++ [nm]).map Value.string) := by simpa using hown2
          have HST : Hid (FreeSt w0 bc bf w2 v2 ((Ex.node 2 nm n ty es).coll L c) c nc) := by
            show FreeSt _ _ _ _ _ _ _ _
            rw [HFE.out]
            exact ⟨hb2, hown3, hc2, hn2, hB, hbb, by omega⟩
          have HM2 := Lib.hid (((HMV.out.trans (Moves.grown (Or.inr rfl) hg1)).trans (Moves.alloc bc bf w1 (.cells #[.string nm] 9) o)).trans (Moves.added hg2 hblk2))
          clear hown2 hown3 hg1 hg2 hn1 hn2 hset1 hb1 hb2 ho1 hblk2 hold hc1 hc2 b1 hz1 hz2
          go_wp2_with fail
          go_ret
          exact ⟨_, nc, rfl, HST.out, by omega, HM2.out⟩
    by_cases q3 : kd = 3
    · subst q3
      have HCO : Hid ((Ex.node 3 nm n ty es).coll L c = Ex.colls L (bump c nm) es) := by show _ = _; simp [Ex.coll]
      have WF1 : Hid ((Lit.int .i64 (c nm + 1)).wf = true) := WalkArith.wf_i64 (by omega)
      have WF2 : Hid ((Lit.int .i64 (bump c nm nm - 1)).wf = true) := by have : bump c nm nm = c nm + 1 := if_pos rfl; exact WalkArith.wf_i64 (by omega)
      have hbn0 : 1 ≤ bump c nm nm := by have : bump c nm nm = c nm + 1 := if_pos rfl; omega
      have hbn1 : bump c nm nm ≤ 1048578 := by have : bump c nm nm = c nm + 1 := if_pos rfl; omega
      have HP : Hid (∀ x, 0 ≤ bump c nm x) := bump_pos HC0.out nm
      have HQ : Hid (∀ x, bump c nm x + Ex.bulks es ≤ 1048578) := fun x => by
        have h1 := HCM.out x
        have h2 := HBK.out
        have h3 : bump c nm x ≤ c x + 1 := by unfold bump; split <;> omega
        omega
      have hncm : nc < 4194303 := by have := HN2.out; omega
      have HA := Lib.hid (hs.alloc (.cells #[.int .i64 3, .string nm, .int .i64 n, .int .i64 tk, .slice ta tn tc, .slice a es.length cap] 36))
      have HMV := Lib.hid (Moves.alloc bc bf w (.cells #[.int .i64 3, .string nm, .int .i64 n, .int .i64 tk, .slice ta tn tc, .slice a es.length cap] 36) o)
      have HSB := Lib.hid hs
      clear hs
      go_enter Try.func55, Try.ntmps55
      go_wp2_with (first
        | (at_lookup; refine cnt_lookup _ rfl _ _ rfl rfl HA.out.2.2.1 nm HNM.out rfl ?_)
        | (at_mapUpdate; refine cnt_store _ rfl _ _ _ rfl rfl HA.out.2.2.1 (by unfold maxLen; omega) nm HNM.out rfl (c nm + 1) WF1.out rfl ?_; intro w1 hcnt1 hg1; have b5 := box_at_heap (hg1.block w.heap.size (by simp) (fun e => by injection e with e; omega)) 5))
      rw [cnt_bump] at hcnt1
      have HS1 := Lib.hid (HA.out.counted hcnt1 hg1)
      have HM1 := Lib.hid (Moves.grown (bf := bf) (o := o) (Or.inl rfl) hg1)
      clear hcnt1 hg1 b5
      go_loopw [0, 45] (fun oo i wr => ∃ (k nk : Nat), k ≤ es.length ∧ i = .int .i64 k ∧ FreeSt w0 bc bf wr oo (Ex.colls L (bump c nm) (es.take k)) (bump c nm) nk ∧ nk ≤ (nc + 1) + 2 * Ex.bulks (es.take k) ∧ Moves bc bf (w.alloc (.cells #[.int .i64 3, .string nm, .int .i64 n, .int .i64 tk, .slice ta tn tc, .slice a es.length cap] 36)) wr o oo) (fun _ i _ => es.length - (intOf i).toNat)
      case atStart => exact ⟨0, (nc + 1), by omega, rfl, by rw [List.take_zero]; simp only [Ex.colls]; exact HS1.out, by omega, HM1.out⟩
      case round =>
        obtain ⟨k, nk, hk, rfl, hst, hnk, hmv⟩ := hrel
        have hbx := HSB.out.box hmv
        have b0 := box_at_heap hbx 0
        have b1 := box_at_heap hbx 1
        have b5 := box_at_heap hbx 5
        clear hbx
        have HS := Lib.hid hst; clear hst
        have HM := Lib.hid hmv; clear hmv
        have HNK := Lib.hid hnk; clear hnk
        have hcl := Ex.colls_few (es.take k) L (bump c nm)
        have hbl0 := Ex.bulks_le es k
        by_cases hlt : k < es.length
        · obtain ⟨b, off, x0, x1, x2, x3, x4, x5, rfl, hbl, hc0, hc1, hc2, hc3, hc4, hc5, ht⟩ := HAT.out k hlt
          have hg := Ex.bulk_get es k hlt
          have hbt := Ex.bulks_take es k hlt
          have hbt2 := Ex.bulks_le es (k + 1)
          obtain ⟨yk, ynm, yn, ytk, yta, ytn, ytc, ya, ym, yc, rfl, rfl, rfl, rfl, rfl, rfl⟩ := ex_cells ht
          have e0 : wr.cell? ⟨b, off + k * 6, none⟩ = some (.int .i64 yk) := by rw [HS.out.1.cell (p := ⟨b, off + k * 6, none⟩) hbl]; exact hc0
          have e1 : wr.cell? ⟨b, off + k * 6 + 1, none⟩ = some (.string ynm) := by rw [HS.out.1.cell (p := ⟨b, off + k * 6 + 1, none⟩) hbl]; exact hc1
          have e2 : wr.cell? ⟨b, off + k * 6 + 2, none⟩ = some (.int .i64 yn) := by rw [HS.out.1.cell (p := ⟨b, off + k * 6 + 2, none⟩) hbl]; exact hc2
          have e3 : wr.cell? ⟨b, off + k * 6 + 3, none⟩ = some (.int .i64 ytk) := by rw [HS.out.1.cell (p := ⟨b, off + k * 6 + 3, none⟩) hbl]; exact hc3
          have e4 : wr.cell? ⟨b, off + k * 6 + 4, none⟩ = some (.slice yta ytn ytc) := by rw [HS.out.1.cell (p := ⟨b, off + k * 6 + 4, none⟩) hbl]; exact hc4
          have e5 : wr.cell? ⟨b, off + k * 6 + 5, none⟩ = some (.slice ya ym yc) := by rw [HS.out.1.cell (p := ⟨b, off + k * 6 + 5, none⟩) hbl]; exact hc5
          have HT := Lib.hid ht
          clear ht hc0 hc1 hc2 hc3 hc4 hc5
          have HTK := Lib.hid (Ex.colls_take es L (bump c nm) k hlt)
          have HX1 : Hid (∀ x, (bump c nm) x + es[k].bulk ≤ 1048577) := fun x => by have := HQ.out x; omega
          have HX2 : Hid ((Ex.colls L (bump c nm) (es.take k)).length + 1 + es[k].bulk ≤ 1048577) := by show _ ≤ _; have h1 := HLM.out; have h2 := HBK.out; omega
          have HX3 : Hid (nk + 2 * (1 + es[k].bulk) ≤ 4194304) := by show _ ≤ _; have h1 := HN2.out; have h2 := HBK.out; have h3 := HNK.out; omega
          have HX4 : Hid (nk + 2 * (1 + es[k].bulk) ≤ (nc + 1) + 2 * Ex.bulks (es.take (k + 1))) := by show _ ≤ _; have h3 := HNK.out; omega
          have HSA := Lib.hid (HS.out.alloc (.cells #[.int .i64 yk, .string ynm, .int .i64 yn, .int .i64 ytk, .slice yta ytn ytc, .slice ya ym yc] 36))
          have HMA := Lib.hid (HM.out.trans (Moves.alloc bc bf wr (.cells #[.int .i64 yk, .string ynm, .int .i64 yn, .int .i64 ytk, .slice yta ytn ytc, .slice ya ym yc] 36) _))
          clear hg hbt hbt2 hcl hbl0
          go_wp2_with fail
          refine (IH.out _ es[k] _ _ _ (bump c nm) nk HT.out HSA.out HP.out HX1.out HX2.out HX3.out).mono ?_
          rintro e w2 ⟨o2, n2, rfl, hs2, hn2, hm2⟩
          rw [← HTK.out] at hs2
          have HS2 := Lib.hid hs2; clear hs2
          have HN3 : Hid (n2 ≤ (nc + 1) + 2 * Ex.bulks (es.take (k + 1))) := Nat.le_trans hn2 HX4.out
          have HM2 := Lib.hid (HMA.out.trans hm2); clear hm2 hn2 e0 e1 e2 e3 e4 e5
          go_wp2_with fail
          exact ⟨⟨k + 1, n2, by omega, by go_num, HS2.out, HN3.out, HM2.out⟩, by simp [intOf]; omega⟩
        · obtain rfl : k = es.length := by omega
          have hfin := HS.out
          rw [List.take_length] at hfin
          have HFS := Lib.hid hfin; clear hfin
          have hnk2 : nk ≤ (nc + 1) + 2 * Ex.bulks es := by have := HNK.out; rw [List.take_length] at this; exact this
          have HNK2 := Lib.hid hnk2; clear hcl hbl0 hnk2
          have hnkm : nk < 4194304 := by have h1 := HNK2.out; have h2 := HN2.out; have h3 := HBK.out; omega
          go_wp2_with (first
            | (at_lookup; refine cnt_lookup _ rfl _ _ rfl rfl HFS.out.2.2.1 nm HNM.out rfl ?_)
            | (at_mapUpdate; refine cnt_store _ rfl _ _ _ rfl rfl HFS.out.2.2.1 (by unfold maxLen; omega) nm HNM.out rfl (bump c nm nm - 1) WF2.out rfl ?_; intro w3 hcnt3 hg3))
          rw [cnt_back] at hcnt3
          have HS3 := Lib.hid (HFS.out.counted hcnt3 hg3)
          have HM3 := Lib.hid ((HMV.out.trans HM.out).trans (Moves.grown (bf := bf) (Or.inl rfl) hg3))
          go_ret
          exact ⟨_, nk + 1, rfl, by rw [HCO.out]; exact HS3.out, by have h1 := HNK2.out; have h3 := HBK.out; omega, HM3.out⟩
    · have qb2 : (kd == 2) = false := by simp [q2]
      have qb3 : (kd == 3) = false := by simp [q3]
      have HCO : Hid ((Ex.node kd nm n ty es).coll L c = Ex.colls L c es) := by show _ = _; simp [Ex.coll, q2, q3]
      have HP : Hid (∀ x, 0 ≤ c x) := HC0
      have HQ : Hid (∀ x, c x + Ex.bulks es ≤ 1048578) := fun x => by
        have h1 := HCM.out x
        have h2 := HBK.out
        omega
      have HA := Lib.hid (hs.alloc (.cells #[.int .i64 kd, .string nm, .int .i64 n, .int .i64 tk, .slice ta tn tc, .slice a es.length cap] 36))
      have HMV := Lib.hid (Moves.alloc bc bf w (.cells #[.int .i64 kd, .string nm, .int .i64 n, .int .i64 tk, .slice ta tn tc, .slice a es.length cap] 36) o)
      have HSB := Lib.hid hs
      clear hs q2 q3
      go_enter Try.func55, Try.ntmps55
      go_wp2_with fail
      go_loopw [0, 45] (fun oo i wr => ∃ (k nk : Nat), k ≤ es.length ∧ i = .int .i64 k ∧ FreeSt w0 bc bf wr oo (Ex.colls L c (es.take k)) c nk ∧ nk ≤ nc + 2 * Ex.bulks (es.take k) ∧ Moves bc bf (w.alloc (.cells #[.int .i64 kd, .string nm, .int .i64 n, .int .i64 tk, .slice ta tn tc, .slice a es.length cap] 36)) wr o oo) (fun _ i _ => es.length - (intOf i).toNat)
      case atStart => exact ⟨0, nc, by omega, rfl, by rw [List.take_zero]; simp only [Ex.colls]; exact HA.out, by omega, Moves.refl _ _ _ _⟩
      case round =>
        obtain ⟨k, nk, hk, rfl, hst, hnk, hmv⟩ := hrel
        have hbx := HSB.out.box hmv
        have b0 := box_at_heap hbx 0
        have b1 := box_at_heap hbx 1
        have b5 := box_at_heap hbx 5
        clear hbx
        have HS := Lib.hid hst; clear hst
        have HM := Lib.hid hmv; clear hmv
        have HNK := Lib.hid hnk; clear hnk
        have hcl := Ex.colls_few (es.take k) L c
        have hbl0 := Ex.bulks_le es k
        by_cases hlt : k < es.length
        · obtain ⟨b, off, x0, x1, x2, x3, x4, x5, rfl, hbl, hc0, hc1, hc2, hc3, hc4, hc5, ht⟩ := HAT.out k hlt
          have hg := Ex.bulk_get es k hlt
          have hbt := Ex.bulks_take es k hlt
          have hbt2 := Ex.bulks_le es (k + 1)
          obtain ⟨yk, ynm, yn, ytk, yta, ytn, ytc, ya, ym, yc, rfl, rfl, rfl, rfl, rfl, rfl⟩ := ex_cells ht
          have e0 : wr.cell? ⟨b, off + k * 6, none⟩ = some (.int .i64 yk) := by rw [HS.out.1.cell (p := ⟨b, off + k * 6, none⟩) hbl]; exact hc0
          have e1 : wr.cell? ⟨b, off + k * 6 + 1, none⟩ = some (.string ynm) := by rw [HS.out.1.cell (p := ⟨b, off + k * 6 + 1, none⟩) hbl]; exact hc1
          have e2 : wr.cell? ⟨b, off + k * 6 + 2, none⟩ = some (.int .i64 yn) := by rw [HS.out.1.cell (p := ⟨b, off + k * 6 + 2, none⟩) hbl]; exact hc2
          have e3 : wr.cell? ⟨b, off + k * 6 + 3, none⟩ = some (.int .i64 ytk) := by rw [HS.out.1.cell (p := ⟨b, off + k * 6 + 3, none⟩) hbl]; exact hc3
          have e4 : wr.cell? ⟨b, off + k * 6 + 4, none⟩ = some (.slice yta ytn ytc) := by rw [HS.out.1.cell (p := ⟨b, off + k * 6 + 4, none⟩) hbl]; exact hc4
          have e5 : wr.cell? ⟨b, off + k * 6 + 5, none⟩ = some (.slice ya ym yc) := by rw [HS.out.1.cell (p := ⟨b, off + k * 6 + 5, none⟩) hbl]; exact hc5
          have HT := Lib.hid ht
          clear ht hc0 hc1 hc2 hc3 hc4 hc5
          have HTK := Lib.hid (Ex.colls_take es L c k hlt)
          have HX1 : Hid (∀ x, c x + es[k].bulk ≤ 1048577) := fun x => by have := HQ.out x; omega
          have HX2 : Hid ((Ex.colls L c (es.take k)).length + 1 + es[k].bulk ≤ 1048577) := by show _ ≤ _; have h1 := HLM.out; have h2 := HBK.out; omega
          have HX3 : Hid (nk + 2 * (1 + es[k].bulk) ≤ 4194304) := by show _ ≤ _; have h1 := HN2.out; have h2 := HBK.out; have h3 := HNK.out; omega
          have HX4 : Hid (nk + 2 * (1 + es[k].bulk) ≤ nc + 2 * Ex.bulks (es.take (k + 1))) := by show _ ≤ _; have h3 := HNK.out; omega
          have HSA := Lib.hid (HS.out.alloc (.cells #[.int .i64 yk, .string ynm, .int .i64 yn, .int .i64 ytk, .slice yta ytn ytc, .slice ya ym yc] 36))
          have HMA := Lib.hid (HM.out.trans (Moves.alloc bc bf wr (.cells #[.int .i64 yk, .string ynm, .int .i64 yn, .int .i64 ytk, .slice yta ytn ytc, .slice ya ym yc] 36) _))
          clear hg hbt hbt2 hcl hbl0
          go_wp2_with fail
          refine (IH.out _ es[k] _ _ _ c nk HT.out HSA.out HP.out HX1.out HX2.out HX3.out).mono ?_
          rintro e w2 ⟨o2, n2, rfl, hs2, hn2, hm2⟩
          rw [← HTK.out] at hs2
          have HS2 := Lib.hid hs2; clear hs2
          have HN3 : Hid (n2 ≤ nc + 2 * Ex.bulks (es.take (k + 1))) := Nat.le_trans hn2 HX4.out
          have HM2 := Lib.hid (HMA.out.trans hm2); clear hm2 hn2 e0 e1 e2 e3 e4 e5
          go_wp2_with fail
          exact ⟨⟨k + 1, n2, by omega, by go_num, HS2.out, HN3.out, HM2.out⟩, by simp [intOf]; omega⟩
        · obtain rfl : k = es.length := by omega
          have hfin := HS.out
          rw [List.take_length] at hfin
          have HFS := Lib.hid hfin; clear hfin
          have hnk2 : nk ≤ nc + 2 * Ex.bulks es := by have := HNK.out; rw [List.take_length] at this; exact this
          have HNK2 := Lib.hid hnk2; clear hcl hbl0 hnk2
          go_wp2_with fail
          go_ret
          exact ⟨_, nk, rfl, by rw [HCO.out]; exact HFS.out, by have h1 := HNK2.out; have h3 := HBK.out; omega, HMV.out.trans HM.out⟩
set_option maxRecDepth 100000 in
set_option maxHeartbeats 4000000 in
theorem implFree (d : Nat) (v : Value) (t : Ex) (w : World) (h : ExAt w d v t) (hsz : t.bulk ≤ 1048576) :
    Calls Try.prog 13 #[v] w (RowEnd t.free w) := by
  have HV := ex_parts h
  obtain ⟨k, nm, n, tk, ta, tn, tc, sa, sn, sc, rfl⟩ := HV
  have hcoll := t.coll_start
  have HCO := Lib.hid hcoll; clear hcoll
  have HB0 : Hid (Below w.heap.size w (((w.alloc (.cells #[.int .i64 k, .string nm, .int .i64 n, .int .i64 tk, .slice ta tn tc, .slice sa sn sc] 36)).alloc (.map #[] 0)).alloc (.map #[] 0))) := (((Below.refl _ _).alloc (Nat.le_refl _) _).alloc (by simp) _).alloc (by simp; omega) _
  have HST : Hid (FreeSt w (w.heap.size + 1) (w.heap.size + 1 + 1) (((w.alloc (.cells #[.int .i64 k, .string nm, .int .i64 n, .int .i64 tk, .slice ta tn tc, .slice sa sn sc] 36)).alloc (.map #[] 0)).alloc (.map #[] 0)) (.slice none 0 0) [] (fun _ => 0) 0) := by
    refine ⟨HB0.out, World.ownsRow_nil _ _ _ _, ?_, ?_, by omega, by omega, by simp⟩
    · have h1 := CntAt.new (w.alloc (.cells #[.int .i64 k, .string nm, .int .i64 n, .int .i64 tk, .slice ta tn tc, .slice sa sn sc] 36))
      rw [World.size_alloc] at h1
      exact h1.kept (heap_alloc_old _ _ (by simp))
    · show SetAt _ _ _ _ _ _ _ _
      have h1 := SetAt.new Try.prog 9 4 Lit.string ((w.alloc (.cells #[.int .i64 k, .string nm, .int .i64 n, .int .i64 tk, .slice ta tn tc, .slice sa sn sc] 36)).alloc (.map #[] 0))
      rw [seenB_nil, World.size_alloc, World.size_alloc] at h1
      exact h1
  have HA := Lib.hid h; clear h
  have hmm := @run_makeMap Try.prog
  go_enter Try.func13, Try.ntmps13
  go_wp2_with fail
  clear hmm
  refine (implFreeIn w (w.heap.size + 1) (w.heap.size + 1 + 1) d _ t _ _ [] (fun _ => 0) 0 HA.out HST.out (fun _ => Int.le_refl 0) (fun _ => by show (0 : Int) + _ ≤ _; omega) (by simp; omega) (by omega)).mono ?_
  rintro e w' ⟨o', nc', rfl, hs, _, hm⟩
  rw [HCO.out] at hs
  have HS := Lib.hid hs; clear hs hm
  go_wp2_with fail
  go_ret
  obtain ⟨h1, h2, _⟩ := HS.out
  exact ⟨_, rfl, ⟨str_base h2 (by omega), fun b hb => (h2.lt b hb).2, Nat.le_refl _⟩, h1⟩
end Go.Proofs.Ytcohfbdhdngplaa
