/- The walk of the statement MemFresh: it returns true. Condition: the row reads as integers. -/
import Derived.Test.YtpgnadngiaibeaaMemApartW
namespace Go.Proofs.Ytpgnadngiaibeaa
open Go Go.RowKit
theorem FRel.flip {w wr : World} {b W h : Nat} {now old : List Ob} {la ls : List Int} {va vs : Value} {R : Nat → Value} (f : FRel w b W h now old la ls va vs wr R) :
    Calls Try.prog 36 #[.pointer (some ⟨b, 0, none⟩)] wr fun e w' => e = .returned (.int .i64 0) ∧ ∃ R', FRel w b W (1 - h) [] now la ls va vs w' R' := by
  refine (flip_any f.x.m f.x.z).mono ?_
  rintro e w' ⟨rfl, R', h1, h2, h3⟩
  exact ⟨rfl, R', f.next h1 (wf_flip f.x.z) (fun i hi => .inl (h2 i hi)) h3⟩
theorem newOb_lo {k s t j : Nat} (h : j < t) : (newOb k s t).ws.getD j 0 = 1 := by
  simp only [newOb, List.getD_eq_getElem?_getD]
  rw [List.getElem?_append_left (by simpa using h)]
  simp [h]
theorem newOb_hi {k s t j : Nat} (h : t ≤ j) : (newOb k s t).ws.getD j 0 = 0 := by
  simp only [newOb, List.getD_eq_getElem?_getD]
  rw [List.getElem?_append_right (by simpa using h), List.getElem?_replicate]
  split <;> rfl
set_option maxRecDepth 100000 in
set_option maxHeartbeats 8000000 in
theorem memFresh_walk (k0 k1 k2 : Int) {v : Value} {zs : List Int} (w : World) (hv : IntsV w v zs) :
    Calls Try.prog 12 #[.int .i64 k0, v, .int .i64 k1, .int .i64 k2] w fun e w' => e = .returned (.bool true) ∧ Below w.heap.size w w' := by
  go_enter Try.func12, Try.ntmps12
  go_wp2_with fail
  refine (filled_any k0 w hv).mono ?_
  rintro e w1 ⟨W, R, ns, va, vs, rfl, hF, hn, hz, hW1⟩
  have HF := Lib.hid hF
  clear hF hn hz
  go_wp2_with fail
  refine HF.out.flip.mono ?_
  rintro e w2 ⟨rfl, R2, hF2⟩
  have HF2 := Lib.hid hF2
  clear hF2
  go_wp2_with fail
  refine HF2.out.flip.mono ?_
  rintro e w3 ⟨rfl, R3, hF3⟩
  have HF3 := Lib.hid (show FRel w w.heap.size W 0 [] [] (aL (fobs ns)) (sL ns) va vs w3 R3 from hF3)
  clear hF3
  go_wp2_with fail
  refine (among_any k1 60 (by decide) (by decide) _).mono ?_
  rintro e w' ⟨⟨n, hn, rfl⟩, rfl⟩
  go_wp2_with fail
  refine (among_any k2 _ (by omega) (by omega) _).mono ?_
  rintro e w' ⟨⟨t, ht, rfl⟩, rfl⟩
  have htn : t ≤ n := by omega
  have hr : rightB 5 n t = true := right_yes (by omega)
  have hw0 := HF3.out.x.z.w0
  have HA := Lib.hid (alloc_to HF3.out.x.m HF3.out.x.z 5 n t 5 n t 1 rfl rfl rfl rfl hr (by simp [used]; omega))
  have HWF := Lib.hid (wf_alloc HF3.out.x.z hr (by simp [used]; omega))
  clear hr
  go_wp2_with fail
  refine HA.out.mono ?_
  rintro e w4 ⟨rfl, R4, m4, hs4, hf4⟩
  have HF4 := Lib.hid (HF3.out.next m4 HWF.out hs4 hf4)
  rw [List.nil_append] at HF4
  have HL := Lib.hid (newOb_len (k := 5) htn)
  clear m4 hs4 hf4
  go_wp2_with fail
  go_loopw [16] (fun i wr => ∃ (j : Nat), j ≤ n ∧ i = .int .i64 j ∧ FRel w w.heap.size W 0 [newOb 5 n t] [] (aL (fobs ns)) (sL ns) va vs wr R4) (fun i _ => n - (intOf i).toNat)
  case atStart => exact ⟨0, Nat.zero_le _, rfl, HF4.out⟩
  case round =>
    obtain ⟨j, hj, rfl, hFr⟩ := hrel
    have HFr := Lib.hid hFr
    clear hFr
    by_cases hjn : j < n
    · have HLJ := Lib.hid (load_hit HFr.out.x.m HFr.out.x.z 1 j (by omega) (j := 0) (idx_start (os := [newOb 5 n t]) (by simp) rfl) (List.getElem?_cons_zero ..) (by rw [HL.out]; exact hjn))
      have HJN := Lib.hid hjn
      by_cases hjt : j < t
      · have HLJ' := HLJ.out
        rw [newOb_lo hjt] at HLJ'
        have HLK := Lib.hid HLJ'
        clear HLJ'
        have hjti : (j : Int) < t := by omega
        go_wp2_with fail
        refine HLK.out.mono ?_
        rintro e w5 ⟨rfl, k5, hw⟩
        have HF5 := Lib.hid (HFr.out.drewN k5)
        rw [← hw] at HF5
        clear hw
        go_wp2_with fail
        go_roundw
        case rel => exact ⟨j + 1, HJN.out, by go_num, HF5.out⟩
        case measure => have := HJN.out; simp [intOf]; omega
      · have HLJ' := HLJ.out
        rw [newOb_hi (by omega)] at HLJ'
        have HLK := Lib.hid HLJ'
        clear HLJ'
        have hjti : ¬ (j : Int) < t := by omega
        go_wp2_with fail
        refine HLK.out.mono ?_
        rintro e w5 ⟨rfl, k5, hw⟩
        have HF5 := Lib.hid (HFr.out.drewN k5)
        rw [← hw] at HF5
        clear hw
        go_wp2_with fail
        go_roundw
        case rel => exact ⟨j + 1, HJN.out, by go_num, HF5.out⟩
        case measure => have := HJN.out; simp [intOf]; omega
    · go_wp2_with fail
      refine (known_any _).mono ?_
      rintro e w7 ⟨rfl, hb⟩
      have HB := Lib.hid (HFr.out.x.known hb)
      clear hb
      go_wp2_with fail
      go_ret
      exact ⟨rfl, HB.out⟩
end Go.Proofs.Ytpgnadngiaibeaa
