/-
  Proved: impl.copyType copies a tree of at most 2^20 nodes into new memory; it leaves the memory that was there as it was.
-/
import Derived.Test.YtcohfbdhdngplaaToTyD
import Derived.Test.YtcohfbdhdngplaaTyEq
import Derived.Test.YtcohfbdhdngplaaHold
import Derived.Test.YtcohfbdhdngplaaPart
namespace Go.Proofs.Ytcohfbdhdngplaa
open Go.RowKit

theorem own_leaf (w : World) (d : Nat) (k : Int) (h0 : -9223372036854775808 ≤ k) (h1 : k ≤ 9223372036854775807) : TyOwn w (d + 1) (.agg #[.int .i64 k, .slice none 0 0]) (.node k []) [] :=
  ⟨_, rfl, h0, h1, none, 0, [], [], rfl, Nat.le_refl _, by omega, rfl, rfl, (fun b hb => by cases hb), fun j hj => by simp at hj⟩
theorem two_frozen {w wr : World} {cs ds : Array Value} {T U : TypeId} (h : Below (w.heap.size + 2) ((w.alloc (.cells cs T)).alloc (.cells ds U)) wr) (j : Nat) : wr.frozen? ⟨w.heap.size + 1, j, none⟩ = false := by
  rw [h.frozen (p := ⟨w.heap.size + 1, j, none⟩) (Nat.lt_succ_self _)]
  simp [go_sem]

set_option maxRecDepth 100000 in
set_option maxHeartbeats 2000000 in
theorem implCopy : ∀ (d : Nat) (v : Value) (t : Ty) (w : World), t.size ≤ 1048577 → TyAt w d v t →
    Calls Try.prog 131 #[v] w (ToTyEnd d t w)
  | 0, _, _, _, _, h => h.elim
  | d + 1, v, .node kd ts, w, hsz, h => by
    have IH : Hid (∀ (v : Value) (t : Ty) (w : World), t.size ≤ 1048577 → TyAt w d v t → Calls Try.prog 131 #[v] w (ToTyEnd d t w)) := implCopy d
    obtain ⟨i0, hi, hz0, hz1, hz2⟩ := info_parts info_ty
    have hlen := Ty.length_le ts
    have HSZ : Hid (1 + Ty.sizes ts ≤ 1048577) := by simp [Ty.size] at hsz; show _ ≤ _; omega
    have hn2 : ts.length ≤ 1048577 := by have := HSZ.out; omega
    clear hsz hlen
    obtain ⟨sl, rfl, hk0, hk1, a, cap, rfl, hcap, hcap2, hat⟩ := h
    have HAT := Lib.hid hat; clear hat
    obtain ⟨n, hn⟩ : ∃ n, n = ts.length := ⟨_, rfl⟩
    have HN := Lib.hid hn
    rw [← hn] at hcap hn2 ⊢
    clear hn
    by_cases z : n = 0
    · subst z
      have HTS : Hid (ts = []) := List.eq_nil_of_length_eq_zero HN.out.symm
      go_enter Try.func131, Try.ntmps131
      go_wp2_with fail
      refine bodyPost_ret (v := .agg #[.int .i64 kd, .slice none 0 0]) (by simp [results, Try.results131, go_sem]) rfl ?_
      rw [HTS.out]
      exact ⟨_, [], rfl, own_leaf _ _ _ hk0 hk1, Fp.nil _ _, ((Below.refl _ _).alloc (Nat.le_refl _) _).alloc (by simp) _⟩
    · have z3 : ((n : Int) == 0) = false := by simp [z]
      go_enter Try.func131, Try.ntmps131
      go_wp2_with (at_make; refine wpList_make_full _ rfl _ _ 31 rfl (w.heap.size + 1 + 1) 33 i0 (.agg #[.int .i64 0, .slice none 0 0]) 2 Try.underlying31 hi hz0 hz1 .i64 .i64 _ _ n rfl rfl rfl rfl (by rw [hz2]; omega) (by unfold maxLen; omega) (by simp) ?_; intro w0 hown0 hg0; refine Hid.out ?_)
      refine Lib.hid ?_
      rw [show ((w.alloc (.cells #[.int .i64 kd, .slice a n cap] 33)).alloc (.cells #[.int .i64 0, .slice none 0 0] 33)).heap.size = w.heap.size + 1 + 1 from by simp] at hown0
      have HB0 : Hid (Below (w.heap.size + 2) ((w.alloc (.cells #[.int .i64 kd, .slice a n cap] 33)).alloc (.cells #[.int .i64 0, .slice none 0 0] 33)) w0) := (Below.refl _ _).grown hg0 (by simp) (fun k hk => by cases hk)
      have HO0 := Lib.hid hown0
      clear hown0 hg0 hi hz0 hz1 hz2
      have p00 := two_first HB0.out 0
      have p01 := two_first HB0.out 1
      go_wp2_with fail
      clear p00 p01
      go_loopw [20] (fun i wr => ∃ (k : Nat) (cs : List Value) (fps : List (List Nat)), k ≤ n ∧ i = .int .i64 k ∧ wr.ownsRow (w.heap.size + 1 + 1) 33 2 (.slice (some ⟨w.heap.size + 1 + 1, 0, none⟩) n n) n cs ∧
          fps.length = k ∧ Fp (w.heap.size + 1 + 1 + 1) wr.heap.size (List.flatten fps) ∧ (∀ j (h : j < ts.length), j < k → ∃ c0 c1 f, cs[j * 2]? = some c0 ∧ cs[j * 2 + 1]? = some c1 ∧ fps[j]? = some f ∧ TyOwn wr d (.agg #[c0, c1]) ts[j] f) ∧
          Below (w.heap.size + 2) ((w.alloc (.cells #[.int .i64 kd, .slice a n cap] 33)).alloc (.cells #[.int .i64 0, .slice none 0 0] 33)) wr) (fun i _ => n - (intOf i).toNat)
      case atStart => exact ⟨0, _, [], by omega, rfl, HO0.out, rfl, Fp.nil _ _, fun j h h2 => by omega, HB0.out⟩
      case round =>
        obtain ⟨k, cs, fps, hk, rfl, hown, hfl, hfp, hdone, hb⟩ := hrel
        have HF := Lib.hid hfp; clear hfp
        have HL := Lib.hid hfl; clear hfl
        have HO := Lib.hid hown
        have HD := Lib.hid hdone; clear hdone
        have HB := Lib.hid hb
        have HBW := Lib.hid (two_below hb); clear hb
        have hgl := (hown.lt (w.heap.size + 1 + 1) rfl).2
        clear hown
        by_cases hlt : k < n
        · have hlt2 : k < ts.length := by have := HN.out; omega
          obtain ⟨b, off, x0, x1, rfl, hbl, hc0, hc1, ht⟩ := HAT.out k hlt2
          obtain ⟨yk, ya, yn, yc, rfl, rfl⟩ := at_parts ht
          have hg := Ty.size_get ts k hlt2
          have e0 : wr.cell? ⟨b, off + k * 2, none⟩ = some (.int .i64 yk) := by rw [HBW.out.cell (p := ⟨b, off + k * 2, none⟩) hbl]; exact hc0
          have e1 : wr.cell? ⟨b, off + k * 2 + 1, none⟩ = some (.slice ya yn yc) := by rw [HBW.out.cell (p := ⟨b, off + k * 2 + 1, none⟩) hbl]; exact hc1
          have hp : Below wr.heap.size wr (wr.alloc (.cells #[.int .i64 yk, .slice ya yn yc] 33)) := below_alloc _ _
          have HT := Lib.hid ((ht.below HBW.out).below hp)
          have HP := Lib.hid hp
          have hzk : ts[k].size ≤ 1048577 := by have := HSZ.out; omega
          clear ht hc0 hc1 hp hg
          go_wp2_with fail
          refine (IH.out _ _ _ hzk HT.out).mono ?_
          rintro e w' ⟨v2, fp, rfl, ht, hfp, hb1⟩
          have hb2 := HP.out.trans (hb1.mono HP.out.size)
          have HF1 := Lib.hid (hfp.mono (lo' := wr.heap.size) HP.out.size (Nat.le_refl _)); clear hfp
          have HO1 := Lib.hid (own_below HO.out hb2); clear HO
          have hz1 := hb2.size
          obtain ⟨zk, za, zn, zc, rfl, HY⟩ := ty_parts ht
          clear ht
          have p0 : ∃ u, w'.cell? ⟨w.heap.size + 1 + 1, k * 2, none⟩ = some u := by
            rw [HO1.out.cellAt (k * 2) (by omega)]
            exact ⟨_, List.getElem?_eq_getElem (by rw [HO1.out.1]; omega)⟩
          have p1 : ∃ u, w'.cell? ⟨w.heap.size + 1 + 1, k * 2 + 1, none⟩ = some u := by
            rw [HO1.out.cellAt (k * 2 + 1) (by omega)]
            exact ⟨_, List.getElem?_eq_getElem (by rw [HO1.out.1]; omega)⟩
          obtain ⟨u0, p0⟩ := p0
          obtain ⟨u1, p1⟩ := p1
          have f0 := HO1.out.frozenAt (k * 2)
          have f1 := HO1.out.frozenAt (k * 2 + 1)
          have HB1 := Lib.hid hb2; clear hb1 hb2
          go_wp2_with fail
          have hcs : cs.length = n * 2 := HO1.out.1
          have hs1 := HO1.out.stored (k * 2) (.int .i64 zk)
          have hs2 := hs1.1.stored (k * 2 + 1) (.slice za zn zc)
          have hkeep : ∀ b, w.heap.size + 1 + 1 + 1 ≤ b → b < w'.heap.size → ((w'.setCell ⟨w.heap.size + 1 + 1, k * 2, none⟩ (.int .i64 zk)).setCell ⟨w.heap.size + 1 + 1, k * 2 + 1, none⟩ (.slice za zn zc)).heap[b]? = w'.heap[b]? := fun b h1 h2 => by
            rw [heap_setCell_other _ _ _ _ (by simp; omega), heap_setCell_other _ _ _ _ (by simp; omega)]
          have hF := HF.out
          have hF1 := HF1.out
          have hL := HL.out
          have hz2 : ((w'.setCell ⟨w.heap.size + 1 + 1, k * 2, none⟩ (.int .i64 zk)).setCell ⟨w.heap.size + 1 + 1, k * 2 + 1, none⟩ (.slice za zn zc)).heap.size = w'.heap.size := by simp
          refine ⟨⟨k + 1, _, fps ++ [fp], by omega, by go_num, hs2.1, by simp [hL], ?_, ?_, ((HB.out.trans (HB1.out.mono (by omega))).setCell (Nat.le_refl _) _).setCell (Nat.le_refl _) _⟩, by simp [intOf]; omega⟩
          · rw [hz2, List.flatten_append, List.flatten_cons, List.flatten_nil, List.append_nil]
            exact hF.join hF1 (by omega) hz1
          · intro j hj hjk
            by_cases hjk2 : j = k
            · subst hjk2
              refine ⟨_, _, fp, ?_, ?_, ?_, HY.out.kept (by simp) fun b hb => hkeep b ?_ (hF1.2 b hb).2⟩
              · rw [List.getElem?_set_ne (by omega), List.getElem?_set_self (by omega)]
              · rw [List.getElem?_set_self (by simp; omega)]
              · rw [List.getElem?_append_right (by omega), hL]; simp
              · have := (hF1.2 b hb).1; omega
            · obtain ⟨c0, c1, f, hc0, hc1, hfj, hty⟩ := HD.out j hj (by omega)
              have hsub : ∀ b, b ∈ f → b ∈ fps.flatten := fun b hb => List.mem_flatten.2 ⟨f, List.mem_of_getElem? hfj, hb⟩
              refine ⟨c0, c1, f, ?_, ?_, ?_, hty.kept (by simp; omega) fun b hb => ?_⟩
              · rw [List.getElem?_set_ne (by omega), List.getElem?_set_ne (by omega)]; exact hc0
              · rw [List.getElem?_set_ne (by omega), List.getElem?_set_ne (by omega)]; exact hc1
              · rw [List.getElem?_append_left (by omega)]; exact hfj
              · have hb2 := hF.2 b (hsub b hb)
                rw [hkeep b hb2.1 (by omega)]; exact HB1.out.block b hb2.2
        · obtain rfl : k = n := by omega
          have p00 := two_first HB.out 0
          have p01 := two_first HB.out 1
          have p10 := two_next HB.out 0
          have p11 := two_next HB.out 1
          have q10 := two_frozen HB.out 0
          have q11 := two_frozen HB.out 1
          go_wp2_with fail
          have hkeep : ∀ b, b ≠ w.heap.size + 1 → ((wr.setCell ⟨w.heap.size + 1, 0, none⟩ (.int .i64 kd)).setCell ⟨w.heap.size + 1, 1, none⟩ (.slice (some ⟨w.heap.size + 1 + 1, 0, none⟩) k k)).heap[b]? = wr.heap[b]? := fun b hb => by
            rw [heap_setCell_other _ _ _ _ hb, heap_setCell_other _ _ _ _ hb]
          have hz2 : ((wr.setCell ⟨w.heap.size + 1, 0, none⟩ (.int .i64 kd)).setCell ⟨w.heap.size + 1, 1, none⟩ (.slice (some ⟨w.heap.size + 1 + 1, 0, none⟩) k k)).heap.size = wr.heap.size := by simp
          have g0 : ((wr.setCell ⟨w.heap.size + 1, 0, none⟩ (.int .i64 kd)).setCell ⟨w.heap.size + 1, 1, none⟩ (.slice (some ⟨w.heap.size + 1 + 1, 0, none⟩) k k)).cell? ⟨w.heap.size + 1, 0, none⟩ = some (.int .i64 kd) := by simp [go_sem, p10]
          have g1 : ((wr.setCell ⟨w.heap.size + 1, 0, none⟩ (.int .i64 kd)).setCell ⟨w.heap.size + 1, 1, none⟩ (.slice (some ⟨w.heap.size + 1 + 1, 0, none⟩) k k)).cell? ⟨w.heap.size + 1, 1, none⟩ = some (.slice (some ⟨w.heap.size + 1 + 1, 0, none⟩) k k) := by simp [go_sem, p11]
          refine bodyPost_ret (v := .agg #[.int .i64 kd, .slice (some ⟨w.heap.size + 1 + 1, 0, none⟩) k k]) (by simp [results, Try.results131, go_sem, g0, g1]) rfl ?_
          refine ⟨_, [w.heap.size + 1 + 1] ++ fps.flatten, rfl, ⟨_, rfl, hk0, hk1, some ⟨w.heap.size + 1 + 1, 0, none⟩, k, [w.heap.size + 1 + 1], fps, by rw [HN.out], by rw [← HN.out]; exact Nat.le_refl _, by omega, by rw [HL.out, HN.out], rfl, fun b hb => by cases List.mem_singleton.1 hb; rw [hz2]; exact hgl, fun j hj => ?_⟩, ?_, (HBW.out.setCell (by simp) _).setCell (by simp) _⟩
          · obtain ⟨c0, c1, f, hc0, hc1, hfj, hty⟩ := HD.out j hj (by have := HN.out; omega)
            have hjk : j < k := by have := HN.out; omega
            refine ⟨w.heap.size + 1 + 1, 0, c0, c1, f, rfl, rfl, by rw [hz2]; exact hgl, ?_, ?_, ?_, hfj, hty.kept (by rw [hz2]; exact Nat.le_refl _) fun b hb => hkeep b ?_⟩
            · rw [World.cell?_of_block (hkeep _ (show w.heap.size + 1 + 1 ≠ w.heap.size + 1 by omega)), Nat.zero_add, HO.out.cellAt (j * 2) (by omega)]; exact hc0
            · rw [World.frozen?_of_block (hkeep _ (show w.heap.size + 1 + 1 ≠ w.heap.size + 1 by omega))]; exact HO.out.frozenAt _
            · rw [World.cell?_of_block (hkeep _ (show w.heap.size + 1 + 1 ≠ w.heap.size + 1 by omega)), Nat.zero_add, HO.out.cellAt (j * 2 + 1) (by omega)]; exact hc1
            · have := (HF.out.2 b (List.mem_flatten.2 ⟨f, List.mem_of_getElem? hfj, hb⟩)).1; omega
          · rw [hz2]
            exact (Fp.one (Nat.le_refl _) (Nat.lt_succ_self _)).join HF.out (by omega) (by omega) |>.mono (by omega) (Nat.le_refl _)
end Go.Proofs.Ytcohfbdhdngplaa
