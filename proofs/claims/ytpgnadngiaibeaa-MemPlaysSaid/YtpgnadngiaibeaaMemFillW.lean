/- The contract of the statements' filled. Condition: the row reads as integers. -/
import Derived.Test.YtpgnadngiaibeaaMemFillM
namespace Go.Proofs.Ytpgnadngiaibeaa
open Go Go.RowKit
theorem infoInt : (Try.prog.info? 3).map (fun i => (i.zero, i.size, i.bytes)) = some (some (.int .i64 0), 1, 8) := by kernel_rfl
section
variable {w wr : World} {b W h : Nat} {R : Nat → Value} {now old : List Ob}
theorem store_to (m : Mem w b W h R now old) (z : WF W h now old) (A I X : Int) (i x : Nat) (hI : I = i) (hX : X = x) (hx : x < 18446744073709551616) (ha2 : A ≤ 9223372036854775807) {j : Nat} {o : Ob} (hi : idxAt now h W A = some j) (ho : now[j]? = some o) (hr : i < o.ws.length) :
    Calls Try.prog 32 #[.pointer (some ⟨b, 0, none⟩), .int .i64 A, .int .i64 I, .int .u64 X] w fun e w' => e = .returned (.int .i64 0) ∧ Mem w' b W h R (now.set j { o with ws := o.ws.set i x }) old ∧ WF W h (now.set j { o with ws := o.ws.set i x }) old ∧ Fr (Own b R) w w' := by
  subst hI hX
  have hw := wf_setF (x := x) (i := i) z ho hx
  rw [setF_eq ho] at hw
  refine (store_hit m z A i x ha2 hi ho hr).mono ?_
  rintro e w' ⟨rfl, h1, h2⟩
  rw [setF_eq ho] at h1
  exact ⟨rfl, h1, hw, h2⟩
end
theorem set_last (l : List Ob) (o o' : Ob) : (l ++ [o]).set l.length o' = l ++ [o'] := by
  rw [List.set_append_right _ _ (Nat.le_refl _), Nat.sub_self]; rfl
theorem get_last (l : List Ob) (o : Ob) : (l ++ [o])[l.length]? = some o := by simp
/-- what filled hands back -/
def Filled (w : World) (e : Ending) (w' : World) : Prop := ∃ (W : Nat) (R : Nat → Value) (ns : List Nat) (va vs : Value), e = .returned (.tuple #[.pointer (some ⟨w.heap.size, 0, none⟩), va, vs]) ∧ FRel w w.heap.size W 0 (fobs ns) [] (aL (fobs ns)) (sL ns) va vs w' R ∧ ns.length ≤ 100 ∧ (∀ n ∈ ns, 1 ≤ n ∧ n ≤ 8) ∧ W ≤ 464
set_option maxRecDepth 100000 in
set_option maxHeartbeats 8000000 in
theorem filled_gen (k0 : Int) (a : Option Addr) (N cap : Nat) (w : World) (hrow : ∀ j, j < N → ∃ (g off : Nat) (z : Int), a = some ⟨g, off, none⟩ ∧ g < w.heap.size ∧ w.cell? ⟨g, off + j, none⟩ = some (.int .i64 z)) :
    Calls Try.prog 26 #[.int .i64 k0, .slice a N cap] w (Filled w) := by
  obtain ⟨i0, hi, hz0, hz1, hz2⟩ := info_parts infoInt
  have HROW := Lib.hid hrow
  clear hrow
  go_enter Try.func26, Try.ntmps26
  go_wp2_with fail
  refine (among_any k0 400 (by decide) (by decide) _).mono ?_
  rintro e w' ⟨⟨r1, hr1, rfl⟩, rfl⟩
  obtain ⟨W, hW⟩ : ∃ W : Nat, (64 : Int) + r1 = W := ⟨64 + r1, by omega⟩
  have hW0 : 64 ≤ W := by omega
  have hW1 : W ≤ 464 := by omega
  go_wp2_with fail
  refine (new_raw W hW0 (by omega) _).mono ?_
  rintro e w1 ⟨rfl, hw1⟩
  have M1 := Lib.hid (show FRel w w.heap.size W 0 (fobs []) [] (aL (fobs [])) (sL []) (.slice none 0 0) (.slice none 0 0) w1 (fun _ => .slice none 0 0) from by
    rw [hw1]
    exact ⟨MW.new w hW0 (by omega), World.ownsRow_nil _ _ _ _, World.ownsRow_nil _ _ _ _, fun _ h => by (cases h), fun _ h => by (cases h), fun _ h => by (cases h)⟩)
  clear hw1 hr1 hW
  go_wp2_with fail
  go_loopw [9, 10, 11] (fun va vs i wr => ∃ (ns : List Nat) (R : Nat → Value), ns.length ≤ 100 ∧ i = .int .i64 ns.length ∧ FRel w w.heap.size W 0 (fobs ns) [] (aL (fobs ns)) (sL ns) va vs wr R ∧ ∀ n ∈ ns, 1 ≤ n ∧ n ≤ 8) (fun _ _ i _ => 100 - (intOf i).toNat)
  case atStart => exact ⟨[], _, by decide, rfl, M1.out, by simp⟩
  case round =>
    obtain ⟨ns, R, hns, rfl, hF, hsz⟩ := hrel
    have HF := Lib.hid hF
    have HSZ := Lib.hid hsz
    have HNS := Lib.hid hns
    clear hF hsz
    by_cases hlt : ns.length < N
    · by_cases hlt2 : ns.length < 100
      · obtain ⟨g, off, z, ha, hg, hc⟩ := HROW.out _ hlt
        have hc' : wr.cell? ⟨g, off + ns.length, none⟩ = some (.int .i64 z) := (HF.out.x.fr.cell (p := ⟨g, off + ns.length, none⟩) hg).trans hc
        subst ha
        have hbd : (0 : Int) ≤ ns.length := by omega
        obtain ⟨I, hI⟩ : ∃ I, ns.length = I := ⟨_, rfl⟩
        have HI := Lib.hid hI
        rw [hI] at hc' hbd hlt hlt2 ⊢
        clear hc hg hI hns
        go_wp2_with fail
        refine (among_any z 8 (by decide) (by decide) _).mono ?_
        rintro e w' ⟨⟨r2, hr2, rfl⟩, rfl⟩
        obtain ⟨n, hn⟩ : ∃ n : Nat, (1 : Int) + r2 = n := ⟨1 + r2, by omega⟩
        have hn0 : 1 ≤ n := by omega
        have hn1 : n ≤ 8 := by omega
        have hr : rightB 1 n n = true := right_yes (by omega)
        have HR := Lib.hid hr
        obtain ⟨u, hu⟩ : ∃ u, used (fobs ns) = u := ⟨_, rfl⟩
        have HU := Lib.hid hu
        have huW : u ≤ W := by rw [← hu]; exact HF.out.x.z.un
        clear hr2 hr hu hc'
        by_cases hfit : u + n + 1 ≤ W
        · have HA := Lib.hid (alloc_to HF.out.x.m HF.out.x.z 1 n n 1 n n (u + 1) rfl rfl rfl (by rw [HU.out, adr_0]) HR.out (by rw [HU.out]; exact hfit))
          go_wp2_with fail
          refine HA.out.mono ?_
          rintro e w2 ⟨rfl, R2, m2, hs2, hf2⟩
          have F2 := HF.out.next m2 (wf_alloc HF.out.x.z HR.out (by rw [HU.out]; exact hfit)) hs2 hf2
          rw [← fobP_zero ns.length n] at F2
          have HF2 := Lib.hid F2
          clear m2 hs2 hf2 F2 hn
          go_wp2_with fail
          obtain ⟨wo, rfl⟩ : ∃ wo : World, wo = w2 := ⟨_, rfl⟩
          go_loopw [15] (fun i wx => ∃ (k : Nat) (R3 : Nat → Value), k ≤ n ∧ i = .int .i64 k ∧ FRel w w.heap.size W 0 (fobs ns ++ [fobP ns.length n k]) [] (aL (fobs ns)) (sL ns) u9 u10 wx R3) (fun i _ => n - (intOf i).toNat)
          case atStart => exact ⟨0, _, Nat.zero_le _, rfl, HF2.out⟩
          case round =>
            obtain ⟨k, R3, hk, rfl, F3⟩ := hrel
            have HF3 := Lib.hid F3
            clear F3
            by_cases hkn : k < n
            · have hlen : (fobP ns.length n k).ws.length = n := fobP_len hk
              have HA3 := Lib.hid (store_to HF3.out.x.m HF3.out.x.z ((u : Int) + 1) (k : Int) (100 * (I : Int) + k) k (100 * ns.length + k) rfl (by rw [HI.out]; omega) (by rw [HI.out]; omega) (by omega) (j := (fobs ns).length) (o := fobP ns.length n k) (by
                have := idxAt_of (os := fobs ns ++ [fobP ns.length n k]) (h := 0) (W := W) (j := (fobs ns).length) (by simp)
                rw [start_append _ _ _ (Nat.le_refl _), start_len, HU.out, adr_0] at this
                exact this) (get_last _ _) (by rw [hlen]; exact hkn))
              have hx : (100 * (I : Int) + k) % 18446744073709551616 = 100 * (I : Int) + k := by omega
              clear hlen
              go_wp2_with fail
              refine HA3.out.mono ?_
              rintro e w4 ⟨rfl, m4, z4, f4⟩
              rw [set_last, fobP_set hkn] at m4 z4
              have F4 := Lib.hid (HF3.out.next m4 z4 (fun _ h => .inl h) f4)
              clear m4 z4 f4
              go_wp2_with fail
              go_roundw
              case rel => exact ⟨k + 1, R3, hkn, by go_num, F4.out⟩
              case measure => simp [intOf]; omega
            · obtain rfl : k = n := by omega
              have F5 := HF3.out
              rw [fobP_full] at F5
              have HF5 := Lib.hid F5
              have hls : (aL (fobs ns)).length = ns.length := by rw [aL_length, fobs_length]
              have hls2 : (sL ns).length = ns.length := sL_length ns
              obtain ⟨a5, cap5, hv5, hcap5, hcap5b, _⟩ := rowI F5.oa
              obtain ⟨a6, cap6, hv6, hcap6, hcap6b, _⟩ := rowI F5.os
              have hoa := F5.oa
              have hos := F5.os
              have HL1 := Lib.hid hls
              have HL2 := Lib.hid hls2
              rw [hls, HI.out] at hv5 hcap5 hoa
              rw [hls2, HI.out] at hv6 hcap6 hos
              subst hv5 hv6
              have HOA := Lib.hid hoa
              have HOS := Lib.hid hos
              clear F5 hls hls2 hoa hos
              go_wp2_with (first
                | (at_builtin; refine wpList_append_own_at _ rfl _ _ 47 rfl w.heap.size 3 i0 (.int .i64 0) 1 8 Try.underlying47 hi hz0 hz1 hz2 rfl (by decide) (.slice a5 I cap5) I (ints (aL (fobs ns))) rfl (HOA.out.alloc _) ⟨wr.heap.size, 0, none⟩ 1 1 [.int .i64 ((u : Int) + 1)] rfl rfl (cell_one_new _ _ _) (by simp [Value.oneCell']) (by unfold maxLen; omega) (by omega) (by have := HF5.out.x.fr.size; simpa using Nat.le_succ_of_le this) ?_; intro v7 w7 hown7 hgrow7 _ hblk7; rw [ints_snoc] at hown7; obtain ⟨g7, cap7, rfl⟩ := ownsRow_succ (k := I) hown7; have HF7 := Lib.hid (HF5.out.appA (n := I + 1) (by rw [HL1.out, HI.out]) hown7 hgrow7 hblk7); have HOS7 := Lib.hid (show w7.ownsRow w.heap.size 3 1 (.slice a6 I cap6) I (ints (sL ns)) from by have := HF7.out.os; rw [HL2.out, HI.out] at this; exact this); clear hown7 hgrow7 hblk7)
                | (at_builtin; refine wpList_append_own_at _ rfl _ _ 47 rfl w.heap.size 3 i0 (.int .i64 0) 1 8 Try.underlying47 hi hz0 hz1 hz2 rfl (by decide) (.slice a6 I cap6) I (ints (sL ns)) rfl (HOS7.out.alloc _) ⟨w7.heap.size, 0, none⟩ 1 1 [.int .i64 (k : Int)] rfl rfl (cell_one_new _ _ _) (by simp [Value.oneCell']) (by unfold maxLen; omega) (by omega) (by have := HF7.out.x.fr.size; simpa using Nat.le_succ_of_le this) ?_; intro v8 w8 hown8 hgrow8 _ hblk8; rw [ints_snoc] at hown8; obtain ⟨g8, cap8, rfl⟩ := ownsRow_succ (k := I) hown8; have HF8 := Lib.hid (HF7.out.appS (n := I + 1) (by rw [HL2.out, HI.out]) hown8 hgrow8 hblk8); clear hown8 hgrow8 hblk8))
              go_roundw
              case rel =>
                refine ⟨ns ++ [k], R3, ?_, ?_, ?_, ?_⟩
                · rw [List.length_append, List.length_singleton, HI.out]; omega
                · rw [List.length_append, List.length_singleton, HI.out]; rfl
                · rw [fobs_snoc, aL_snoc, sL_snoc, HU.out]
                  exact HF8.out
                · intro m hm
                  rcases List.mem_append.1 hm with a | a
                  · exact HSZ.out m a
                  · obtain rfl := List.mem_singleton.1 a
                    exact ⟨hn0, hn1⟩
              case measure => simp [intOf]; omega
        · have HA := Lib.hid (alloc_full HF.out.x.m HF.out.x.z 1 n n HR.out (by rw [HU.out]; omega))
          go_wp2_with fail
          refine HA.out.mono ?_
          rintro e w2 ⟨rfl, k, rfl⟩
          have HF2 := Lib.hid (HF.out.drewN k)
          go_wp2_with fail
          go_ret3
          exact ⟨W, R, ns, u9, u10, rfl, HF2.out, HNS.out, HSZ.out, hW1⟩
      · have h100 : ns.length = 100 := by omega
        go_wp2_with fail
        go_ret3
        exact ⟨W, R, ns, u9, u10, rfl, HF.out, HNS.out, HSZ.out, hW1⟩
    · go_wp2_with fail
      go_ret3
      exact ⟨W, R, ns, u9, u10, rfl, HF.out, HNS.out, HSZ.out, hW1⟩
theorem filled_any (k0 : Int) {v : Value} {zs : List Int} (w : World) (hv : IntsV w v zs) :
    Calls Try.prog 26 #[.int .i64 k0, v] w (Filled w) := by
  rcases hv with ⟨rfl, _⟩ | ⟨g, off, cap, rfl, hg, _, _, hc, _⟩
  · exact filled_gen k0 none 0 0 w (fun _ h => by omega)
  · exact filled_gen k0 _ _ _ w (fun j h => ⟨g, off, _, rfl, hg, hc j h⟩)
end Go.Proofs.Ytpgnadngiaibeaa
