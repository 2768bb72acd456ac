/- The contract of the document's Quote: the quoted text; nothing that lay has turned. Condition: the text is no longer than a million bytes. -/
import Derived.Test.YtlakfnlkiebpdaaDoorRtsQ
namespace Go.Proofs.YtlakfnlkiebpdaaDoor
open Go Go.RowKit
set_option maxRecDepth 100000 in
set_option maxHeartbeats 8000000 in
theorem refquote_any (s : ByteArray) (hs : s.size ≤ 1000000) (w : World) :
    Calls Tryd.prog 36 #[.string s] w fun e w' => e = .returned (.string ⟨(quoteL s.data.toList).toArray⟩) ∧ Below w.heap.size w w' := by
  obtain ⟨i0, hi, hz0, hz1, hz2⟩ := info_parts NumL.infoU8
  have HQ0 := Lib.hid (show QR w w [] (.slice none 0 0) from ⟨World.ownsRow_nil _ _ _ _, Below.refl _ _⟩)
  go_enter Tryd.func36, Tryd.ntmps36
  go_wp2_with (at_builtin; refine wpList_append_own_at _ rfl _ _ 125 rfl w.heap.size 5 i0 (.int .u8 0) 1 1 Tryd.underlying125 hi hz0 hz1 hz2 rfl (by decide) _ 0 [] rfl (HQ0.out.row.alloc _) ⟨w.heap.size, 0, none⟩ 1 1 [.int .u8 34] rfl rfl (cell_one_new _ _ _) (by simp [Value.oneCell']) (by unfold maxLen; omega) (by omega) (by simp) ?_; intro v2 w2 hown2 hgrow2 _ _; have HQ2 := Lib.hid (HQ0.out.app (m := [34]) (xs := [.int .u8 34]) rfl rfl hown2 hgrow2); clear hown2 hgrow2)
  have hqs : ∀ l : List UInt8, l.length ≤ s.size → ([34] ++ quoteI l).length ≤ 4000001 := fun l hl => by
    have := (quoteI_len l).2
    simp only [List.length_append, List.length_cons, List.length_nil]; omega
  have HQS := Lib.hid hqs
  have hsl : s.data.toList.length = s.size := by simp
  have HSL := Lib.hid hsl
  clear hqs hsl
  go_loopw [4, 5] (fun q i wr => ∃ (k : Nat), k ≤ s.size ∧ i = .int .i64 k ∧ QR w wr ([34] ++ quoteI (s.data.toList.take k)) q) (fun _ i _ => s.size - (intOf i).toNat)
  case atStart => exact ⟨0, Nat.zero_le _, rfl, HQ2.out⟩
  case round =>
    obtain ⟨k, hk, rfl, hq⟩ := hrel
    clear HQ2 HQ0
    have hle := hq.fr.size
    by_cases hlt : k < s.size
    · have hln := HQS.out (s.data.toList.take k) (by rw [List.length_take]; omega)
      obtain ⟨L, hL⟩ : ∃ L, [34] ++ quoteI (s.data.toList.take k) = L := ⟨_, rfl⟩
      rw [hL] at hq hln
      have hts := take_snocB s k hlt
      have HSN := Lib.hid (show [34] ++ quoteI (s.data.toList.take (k + 1)) = L ++ quoteB s[k] from by rw [hts, quoteI_snoc, ← hL, List.append_assoc])
      obtain ⟨n, hn⟩ : ∃ n, L.length = n := ⟨_, rfl⟩
      have hrow := hq.row
      rw [hn] at hrow hln
      have HQ := Lib.hid hq
      have HROW := Lib.hid hrow
      have HN := Lib.hid hn
      have hc256 : (s[k]).toNat < 256 := (s[k]).toNat_lt
      obtain ⟨x, hx⟩ : ∃ x, (s[k]).toNat = x := ⟨_, rfl⟩
      rw [hx] at hc256
      have HX := Lib.hid hx
      clear hq hrow hn hL hts
      by_cases h1 : x = 34 ∨ x = 92
      · have HB := Lib.hid (qb_1 HX.out h1)
        have b3 : (((x : Int) == 34) = true) ∨ (((x : Int) == 34) = false ∧ ((x : Int) == 92) = true) := by
          rcases h1 with h1 | h1
          · left; simp; omega
          · right; constructor <;> simp <;> omega
        clear h1
        rcases b3 with b1 | ⟨b1, b2⟩
        all_goals
          go_wp2_with (at_builtin; refine wpList_append_own_at _ rfl _ _ 125 rfl w.heap.size 5 i0 (.int .u8 0) 1 1 Tryd.underlying125 hi hz0 hz1 hz2 rfl (by decide) _ n (NumL.u8s L) rfl (HROW.out.alloc _) ⟨wr.heap.size, 0, none⟩ 2 2 [.int .u8 92, .int .u8 (x : Int)] rfl rfl (cellsN_at _ [_, _] _) (by simp [Value.oneCell']) (by unfold maxLen; omega) (by omega) (by simp; omega) ?_; intro v5 w5 hown5 hgrow5 _ _; have HQ5 := Lib.hid (HQ.out.app (m := [92, s[k]]) (n := 2) (xs := [.int .u8 92, .int .u8 (x : Int)]) (by rw [← HX.out]; rfl) rfl (by rw [HN.out]; exact hown5) hgrow5); clear hown5 hgrow5)
          go_roundw
          case rel => exact ⟨k + 1, hlt, by go_num, by rw [HSN.out, HB.out]; exact HQ5.out⟩
          case measure => simp [intOf]; omega
      · have b1 : ((x : Int) == 34) = false := by simp; omega
        have b2 : ((x : Int) == 92) = false := by simp; omega
        by_cases h2 : x = 9
        · have HB := Lib.hid (qb_3 HX.out h2)
          have b3 : ((x : Int) == 9) = true := by simp; omega
          clear h1 h2
          go_wp2_with (at_builtin; refine wpList_append_own_at _ rfl _ _ 125 rfl w.heap.size 5 i0 (.int .u8 0) 1 1 Tryd.underlying125 hi hz0 hz1 hz2 rfl (by decide) _ n (NumL.u8s L) rfl (HROW.out.alloc _) ⟨wr.heap.size, 0, none⟩ 2 2 [.int .u8 92, .int .u8 116] rfl rfl (cellsN_at _ [_, _] _) (by simp [Value.oneCell']) (by unfold maxLen; omega) (by omega) (by simp; omega) ?_; intro v5 w5 hown5 hgrow5 _ _; have HQ5 := Lib.hid (HQ.out.app (m := [92, 116]) (n := 2) (xs := [.int .u8 92, .int .u8 116]) rfl rfl (by rw [HN.out]; exact hown5) hgrow5); clear hown5 hgrow5)
          go_roundw
          case rel => exact ⟨k + 1, hlt, by go_num, by rw [HSN.out, HB.out]; exact HQ5.out⟩
          case measure => simp [intOf]; omega
        · have b3 : ((x : Int) == 9) = false := by simp; omega
          by_cases h3 : x = 10
          · have HB := Lib.hid (qb_2 HX.out h3)
            have b4 : ((x : Int) == 10) = true := by simp; omega
            clear h1 h2 h3
            go_wp2_with (at_builtin; refine wpList_append_own_at _ rfl _ _ 125 rfl w.heap.size 5 i0 (.int .u8 0) 1 1 Tryd.underlying125 hi hz0 hz1 hz2 rfl (by decide) _ n (NumL.u8s L) rfl (HROW.out.alloc _) ⟨wr.heap.size, 0, none⟩ 2 2 [.int .u8 92, .int .u8 110] rfl rfl (cellsN_at _ [_, _] _) (by simp [Value.oneCell']) (by unfold maxLen; omega) (by omega) (by simp; omega) ?_; intro v5 w5 hown5 hgrow5 _ _; have HQ5 := Lib.hid (HQ.out.app (m := [92, 110]) (n := 2) (xs := [.int .u8 92, .int .u8 110]) rfl rfl (by rw [HN.out]; exact hown5) hgrow5); clear hown5 hgrow5)
            go_roundw
            case rel => exact ⟨k + 1, hlt, by go_num, by rw [HSN.out, HB.out]; exact HQ5.out⟩
            case measure => simp [intOf]; omega
          · have b4 : ((x : Int) == 10) = false := by simp; omega
            by_cases h5 : x < 32 ∨ 126 < x
            · have HB := Lib.hid (qb_4 HX.out (by omega) (by omega) h3 h2 h5)
              have b5 : (decide ((32 : Int) ≤ x) = false) ∨ (decide ((32 : Int) ≤ x) = true ∧ decide ((x : Int) < 127) = false) := by
                by_cases q : x < 32
                · left; simp; omega
                · right; constructor <;> simp <;> omega
              have s1 : IntKind.i64.wrap (x : Int) = (x : Int) := by rw [IntKind.wrap_i64]; omega
              have s2 : (x : Int).tdiv 16 = ((x / 16 : Nat) : Int) := by rw [Int.tdiv_eq_ediv_of_nonneg (by omega)]; omega
              have s3 : IntKind.i64.wrap ((x / 16 : Nat) : Int) = ((x / 16 : Nat) : Int) := by rw [IntKind.wrap_i64]; omega
              have s4 : (x : Int).tmod 16 = ((x % 16 : Nat) : Int) := by rw [Int.tmod_eq_emod_of_nonneg (by omega)]; omega
              have i1 := hex_run (x / 16) (by omega) .i64 ((x / 16 : Nat) : Int) rfl
              have i2 := hex_run (x % 16) (by omega) .i64 ((x % 16 : Nat) : Int) rfl
              obtain ⟨xa, hxa⟩ : ∃ xa, (hexN (x / 16)).toNat = xa := ⟨_, rfl⟩
              obtain ⟨xb, hxb⟩ : ∃ xb, (hexN (x % 16)).toNat = xb := ⟨_, rfl⟩
              rw [hxa] at i1
              rw [hxb] at i2
              have HXA := Lib.hid hxa
              have e1 : x / 16 < 16 := by omega
              have e2 : x % 16 < 16 := by omega
              have HXB := Lib.hid hxb
              have HXX := Lib.hid (And.intro hxa hxb)
              obtain ⟨xd, hxd⟩ : ∃ xd, x / 16 = xd := ⟨_, rfl⟩
              obtain ⟨xr, hxr⟩ : ∃ xr, x % 16 = xr := ⟨_, rfl⟩
              rw [hxd] at s2 s3 i1 e1
              rw [hxr] at s4 i2 e2
              clear h1 h2 h3 h5 hxa hxb hxd hxr
              rcases b5 with b5 | ⟨b5, b6⟩
              all_goals
                go_wp2_with fail
                go_region_law ((refine step_append_lies _ (by rfl) _ _ 125 (by rfl) w.heap.size 5 i0 (.int .u8 0) 1 1 Tryd.underlying125 hi hz0 hz1 hz2 rfl (by decide) u4 n (NumL.u8s L) (by rfl) ((HROW.out.drew).alloc _) ⟨wr.heap.size, 0, none⟩ 4 4 [.int .u8 92, .int .u8 120, .int .u8 (xa : Int), .int .u8 (xb : Int)] (by rfl) rfl (cellsN_on _ [_, _, _, _] _ _ (by simp)) (by simp [Value.oneCell']) (by omega) (by unfold maxLen; omega) (by omega) (by simp; omega) (wr.heap.size + 1) (by simp) ?_; intro g5 cap5 w5 hown5 hgrow5 _ _; have HQ5 := Lib.hid (HQ.out.drew.app (m := [92, 120, hexN (x / 16), hexN (x % 16)]) (n := 4) (xs := [.int .u8 92, .int .u8 120, .int .u8 (xa : Int), .int .u8 (xb : Int)]) (by rw [← HXA.out, ← HXB.out]; rfl) rfl (by rw [HN.out]; exact hown5) hgrow5); clear hown5 hgrow5))
                all_goals
                  go_wp2_with fail
                  go_roundw
                  case rel => exact ⟨k + 1, hlt, by go_num, by rw [HSN.out, HB.out]; exact HQ5.out⟩
                  case measure => simp [intOf]; omega
            · have HB := Lib.hid (qb_5 HX.out (by omega) (by omega) h3 h2 h5)
              have b5 : decide ((32 : Int) ≤ x) = true := by simp; omega
              have b6 : decide ((x : Int) < 127) = true := by simp; omega
              clear h1 h2 h3 h5
              go_wp2_with (at_builtin; refine wpList_append_own_at _ rfl _ _ 125 rfl w.heap.size 5 i0 (.int .u8 0) 1 1 Tryd.underlying125 hi hz0 hz1 hz2 rfl (by decide) _ n (NumL.u8s L) rfl (HROW.out.alloc _) ⟨wr.heap.size, 0, none⟩ 1 1 [.int .u8 (x : Int)] rfl rfl (cell_one_new _ _ _) (by simp [Value.oneCell']) (by unfold maxLen; omega) (by omega) (by simp; omega) ?_; intro v5 w5 hown5 hgrow5 _ _; have HQ5 := Lib.hid (HQ.out.app (m := [s[k]]) (n := 1) (xs := [.int .u8 (x : Int)]) (by rw [← HX.out]; rfl) rfl (by rw [HN.out]; exact hown5) hgrow5); clear hown5 hgrow5)
              go_roundw
              case rel => exact ⟨k + 1, hlt, by go_num, by rw [HSN.out, HB.out]; exact HQ5.out⟩
              case measure => simp [intOf]; omega
    · obtain rfl : k = s.size := by omega
      rw [List.take_of_length_le (by rw [HSL.out]; exact Nat.le_refl _)] at hq
      have hln := HQS.out s.data.toList (by rw [HSL.out]; exact Nat.le_refl _)
      obtain ⟨L, hL⟩ : ∃ L, [34] ++ quoteI s.data.toList = L := ⟨_, rfl⟩
      rw [hL] at hq hln
      have HLL := Lib.hid hL
      obtain ⟨n, hn⟩ : ∃ n, L.length = n := ⟨_, rfl⟩
      have hrow := hq.row
      rw [hn] at hrow hln
      have HQ := Lib.hid hq
      have HROW := Lib.hid hrow
      have HN := Lib.hid hn
      clear hq hrow hn hL
      go_wp2_with (at_builtin; refine wpList_append_own_at _ rfl _ _ 125 rfl w.heap.size 5 i0 (.int .u8 0) 1 1 Tryd.underlying125 hi hz0 hz1 hz2 rfl (by decide) _ n (NumL.u8s L) rfl (HROW.out.alloc _) ⟨wr.heap.size, 0, none⟩ 1 1 [.int .u8 34] rfl rfl (cell_one_new _ _ _) (by simp [Value.oneCell']) (by unfold maxLen; omega) (by omega) (by simp; omega) ?_; intro v5 w5 hown5 hgrow5 _ _; have HQ5 := Lib.hid (HQ.out.app (m := [34]) (n := 1) (xs := [.int .u8 34]) rfl rfl (by rw [HN.out]; exact hown5) hgrow5); have hct := NumL.own_text rfl HQ5.out.row; clear hown5 hgrow5)
      go_ret
      exact ⟨by rw [← HLL.out]; rfl, HQ5.out.fr⟩
end Go.Proofs.YtlakfnlkiebpdaaDoor
