/- The contract of the statements' holds. Conditions: the memory and the two lists lie as FRel says, and every object but one holds what filled has stored. -/
import Derived.Test.YtpgnadngiaibeaaMemRoomW
namespace Go.Proofs.Ytpgnadngiaibeaa
open Go Go.RowKit
theorem sz_fobs (ns : List Nat) : sz (fobs ns) = ns := by
  apply List.ext_getElem
  · simp [sz, fobs]
  · intro i h1 h2
    simp [sz, fobs, fob]
theorem len_of_sz {os : List Ob} {ns : List Nat} (h : sz os = ns) : os.length = ns.length := by rw [← h]; simp [sz]
theorem get_of_sz {os : List Ob} {ns : List Nat} (h : sz os = ns) {j : Nat} (hj : j < ns.length) : ∃ o, os[j]? = some o ∧ o.ws.length = ns[j] := by
  have hj' : j < os.length := by rw [len_of_sz h]; exact hj
  refine ⟨os[j], by simp [hj'], ?_⟩
  subst h
  simp [sz]
/-- the address that the list tells is that of the object -/
theorem idx_start {os : List Ob} {W j : Nat} (hj : j < os.length) {A : Int} (hA : ((start os j : Nat) : Int) + 1 = A) : idxAt os 0 W A = some j := by
  rw [← hA, ← adr_0 W]
  exact idxAt_of hj
def Held (now : List Ob) (but : Int) : Prop := ∀ (j : Nat) (o : Ob), now[j]? = some o → (j : Int) ≠ but → ∀ k, k < o.ws.length → o.ws.getD k 0 = 100 * j + k
theorem held_fobs (ns : List Nat) (but : Int) : Held (fobs ns) but := by
  intro j o ho _ k hk
  have hj : j < ns.length := by rw [← fobs_length]; exact (List.getElem?_eq_some_iff.1 ho).1
  rw [fobs_get ns hj] at ho
  obtain rfl := Option.some.inj ho
  rw [fob_len] at hk
  exact fob_get hk
theorem FRel.addr_le {w wr : World} {b W h : Nat} {now old : List Ob} {la ls : List Int} {va vs : Value} {R : Nat → Value} (f : FRel w b W h now old la ls va vs wr R) {j : Nat} (hj : j < now.length) : start now j + 1 ≤ W ∧ W ≤ 65536 := by
  have h1 := start_lt now hj
  have h2 := f.x.z.un
  have h3 := f.x.z.w1
  omega
section
variable {w w1 : World} {b W : Nat} {R : Nat → Value} {now old : List Ob} {va vs : Value} {ns : List Nat} {but : Int}
set_option maxRecDepth 100000 in
set_option maxHeartbeats 4000000 in
theorem holds_any (hF : FRel w b W 0 now old (aL now) (sL ns) va vs w1 R) (hs : sz now = ns) (hn : ns.length ≤ 100) (h8 : ∀ n ∈ ns, 1 ≤ n ∧ n ≤ 8) (hh : Held now but) :
    Calls Try.prog 34 #[.pointer (some ⟨b, 0, none⟩), va, vs, .int .i64 but] w1 fun e w' => e = .returned (.bool true) ∧ ∃ n, w' = w1.drewN n := by
  obtain ⟨a, cap, a', cap', rfl, rfl, hc1, hc2, hc3, hc4⟩ := hF.at (len_of_sz hs)
  have HF := Lib.hid hF
  have HS := Lib.hid hs
  have H8 := Lib.hid h8
  have HH := Lib.hid hh
  obtain ⟨N, hN⟩ : ∃ N, ns.length = N := ⟨_, rfl⟩
  have HN := Lib.hid hN
  rw [hN] at hc1 hc3 hn HF ⊢
  clear hF hs h8 hh hN
  go_enter Try.func34, Try.ntmps34
  go_wp2_with fail
  go_loopw [9] (fun i wr => ∃ (j : Nat), j ≤ N ∧ i = .int .i64 j ∧ FRel w b W 0 now old (aL now) (sL ns) (.slice a N cap) (.slice a' N cap') wr R ∧ ∃ n, wr = w1.drewN n) (fun i _ => N - (intOf i).toNat)
  case atStart => exact ⟨0, Nat.zero_le _, rfl, HF.out, 0, rfl⟩
  case round =>
    obtain ⟨j, hj, rfl, hFr, hdr⟩ := hrel
    have HFr := Lib.hid hFr
    have HD := Lib.hid hdr
    clear hdr
    by_cases hlt : j < N
    · have hjn : j < ns.length := by rw [HN.out]; exact hlt
      obtain ⟨o, ho, hol⟩ := get_of_sz HS.out hjn
      have hjo : j < now.length := (List.getElem?_eq_some_iff.1 ho).1
      obtain ⟨x, hx⟩ : ∃ x, start now j = x := ⟨_, rfl⟩
      obtain ⟨y, hy⟩ : ∃ y, ns[j] = y := ⟨_, rfl⟩
      have hy8 : y ≤ 8 := by rw [← hy]; exact (H8.out _ (List.getElem_mem hjn)).2
      have hxw := hFr.addr_le hjo
      rw [hx] at hxw
      rw [hy] at hol
      have HX := Lib.hid hx
      have HY := Lib.hid hy
      have HO := Lib.hid ho
      have HOL := Lib.hid hol
      clear hFr ho hol hx hy
      obtain ⟨wo, hwo⟩ : ∃ wo : World, wo = wr := ⟨_, rfl⟩
      go_wp2_with fail
      go_loopw [10] (fun i wx => ∃ (k : Nat), k ≤ y ∧ i = .int .i64 k ∧ FRel w b W 0 now old (aL now) (sL ns) (.slice a N cap) (.slice a' N cap') wx R ∧ ∃ n, wx = w1.drewN n) (fun i _ => y - (intOf i).toNat)
      case atStart => exact ⟨0, Nat.zero_le _, rfl, HFr.out, HD.out⟩
      case round =>
        obtain ⟨k, hk, rfl, hF3, hdr⟩ := hrel
        have HF3 := Lib.hid hF3
        have HD3 := Lib.hid hdr
        obtain ⟨g, rfl, hcell, hfz⟩ := hF3.cellA (j := j) hjo
        obtain ⟨g', rfl, hcell', hfz'⟩ := hF3.cellS (j := j) hjn
        rw [HX.out] at hcell
        rw [HY.out] at hcell'
        clear hF3 hdr
        by_cases hky : k < y
        · have HL := Lib.hid (load_hit HF3.out.x.m HF3.out.x.z ((x : Int) + 1) k (by omega) (idx_start hjo (by rw [HX.out])) HO.out (by rw [HOL.out]; exact hky))
          obtain ⟨q, hq⟩ : ∃ q, o.ws.getD k 0 = q := ⟨_, rfl⟩
          rw [hq] at HL
          have HKY := Lib.hid hky
          by_cases hbut : (j : Int) = but
          · subst hbut
            have hbe : ((j : Int) == (j : Int)) = true := beqT rfl
            clear hq
            go_wp2_with fail
            refine HL.out.mono ?_
            rintro e w3 ⟨rfl, n, hw⟩
            have HF4 := Lib.hid (HF3.out.drewN n)
            rw [← hw] at HF4
            have HD4 := Lib.hid (show ∃ n, w3 = w1.drewN n from by obtain ⟨n', h'⟩ := HD3.out; exact ⟨n' + n, by rw [hw, h', World.drewN_drewN]⟩)
            clear hw
            go_wp2_with fail
            go_roundw
            case rel => exact ⟨k + 1, HKY.out, by go_num, HF4.out, HD4.out⟩
            case measure => have := HKY.out; simp [intOf]; omega
          · have hqv : q = 100 * j + k := by rw [← hq]; exact HH.out j o HO.out hbut k (by rw [HOL.out]; exact hky)
            have hqi : (q : Int) = 100 * (j : Int) + k := by omega
            rw [hqi] at HL
            have hbe : ((j : Int) == but) = false := beqF hbut
            have hx1 : (100 * (j : Int) + k) % 18446744073709551616 = 100 * (j : Int) + k := by omega
            have hx2 : ((100 * (j : Int) + k) == (100 * (j : Int) + k)) = true := beqT rfl
            clear hq hqv hqi
            go_wp2_with fail
            refine HL.out.mono ?_
            rintro e w3 ⟨rfl, n, hw⟩
            have HF4 := Lib.hid (HF3.out.drewN n)
            rw [← hw] at HF4
            have HD4 := Lib.hid (show ∃ n, w3 = w1.drewN n from by obtain ⟨n', h'⟩ := HD3.out; exact ⟨n' + n, by rw [hw, h', World.drewN_drewN]⟩)
            clear hw
            go_wp2_with fail
            go_roundw
            case rel => exact ⟨k + 1, HKY.out, by go_num, HF4.out, HD4.out⟩
            case measure => have := HKY.out; simp [intOf]; omega
        · go_wp2_with fail
          go_roundw
          case rel => exact ⟨j + 1, hlt, by go_num, HF3.out, HD3.out⟩
          case measure => simp [intOf]; omega
    · go_wp2_with fail
      go_ret
      exact ⟨rfl, HD.out⟩
end
end Go.Proofs.Ytpgnadngiaibeaa
