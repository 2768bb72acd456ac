/- Contracts of the document's Number, Has, Keys, Signs and WordKind. Conditions: texts within the reach. -/
import Derived.Test.YtphhokpbkcdljaaDoorLexU
namespace Go.Proofs.YtphhokpbkcdljaaDoor
open Go Go.RowKit
theorem dvl_snoc (l : List UInt8) (c : UInt8) : dvl (l ++ [c]) = dvl l * 10 + (c.toNat - 48) := by simp [dvl]
theorem dvl_le (l m : List UInt8) : dvl l ≤ dvl (l ++ m) := by
  induction m generalizing l with
  | nil => simp
  | cons c m ih =>
    have h1 := ih (l ++ [c])
    rw [List.append_assoc, List.singleton_append] at h1
    have h2 := dvl_snoc l c
    omega
theorem take_snocB (s : ByteArray) {k : Nat} (h : k < s.size) : s.data.toList.take (k + 1) = s.data.toList.take k ++ [s[k]] := by
  rw [List.take_succ_eq_append_getElem (by simpa using h)]; rfl
theorem dvl_take_le (s : ByteArray) (k : Nat) : dvl (s.data.toList.take k) ≤ dvl s.data.toList := by
  have := dvl_le (s.data.toList.take k) (s.data.toList.drop k)
  rwa [List.take_append_drop] at this
/-- a number, and whether it is one -/
def numV (l : List UInt8) : Nat × Bool := match numL l with
  | some n => (n, true)
  | none => (0, false)
theorem numV_no {s : ByteArray} {k : Nat} (h : k < s.size) (hd : isDg s[k] = false) : numV s.data.toList = (0, false) := by
  unfold numV numL
  rw [if_neg]
  rintro ⟨_, h2, _⟩
  have : isDg s[k] = true := by
    refine List.all_eq_true.1 h2 _ ?_
    have := List.getElem_mem (l := s.data.toList) (n := k) (by simpa using h)
    exact this
  rw [hd] at this; cases this
theorem numV_big {s : ByteArray} {k : Nat} (h : maxI < dvl (s.data.toList.take k)) : numV s.data.toList = (0, false) := by
  unfold numV numL
  rw [if_neg]
  rintro ⟨_, _, h3⟩
  have := dvl_take_le s k
  omega
set_option maxRecDepth 100000 in
set_option maxHeartbeats 8000000 in
theorem ref_number (s : ByteArray) (hs : s.size ≤ 140737488351232) (w : World) :
    Calls Tryd.prog 50 #[.string s] w fun e w' => e = .returned (.tuple #[.int .i64 ((numV s.data.toList).1 : Int), .bool (numV s.data.toList).2]) ∧ w' = w := by
  obtain ⟨V, hV⟩ : ∃ V, numV s.data.toList = V := ⟨_, rfl⟩
  rw [hV]
  have HV := Lib.hid hV
  clear hV
  go_enter Tryd.func50, Tryd.ntmps50
  go_wp2_with fail
  go_loop [4, 5] (fun n i => ∃ k v : Nat, k ≤ s.size ∧ i = .int .i64 k ∧ n = .int .i64 (v : Int) ∧ v ≤ maxI ∧ dvl (s.data.toList.take k) = v ∧ (s.data.toList.take k).all isDg = true) (fun _ i => s.size - (intOf i).toNat)
  case atStart => exact ⟨0, 0, Nat.zero_le _, rfl, rfl, Nat.zero_le _, rfl, rfl⟩
  case round =>
    obtain ⟨k, v, hk, rfl, rfl, hvm, hdv, hall⟩ := hrel
    unfold maxI at hvm
    by_cases hlt : k < s.size
    · have HD := Lib.hid (btw_dg s[k])
      cases hz : isDg s[k] with
      | false =>
        rw [hz] at HD
        have HR := Lib.hid (numV_no hlt hz)
        clear hz hdv hall
        go_wp2_with fail
        refine (HD.out _).mono ?_
        rintro e w1 ⟨rfl, hw1⟩
        subst w1
        go_wp2_with fail
        go_ret2
        exact ⟨by rw [← HV.out, HR.out]; rfl, rfl⟩
      | true =>
        rw [hz] at HD
        have hb := dg_bd hz
        have h48 : (48 : Int) ≤ (s[k].toNat : Int) := by omega
        have h57 : (s[k].toNat : Int) ≤ 57 := by omega
        have hsn := take_snocB s hlt
        have hdn := dvl_snoc (s.data.toList.take k) s[k]
        rw [← hsn, hdv] at hdn
        have hal2 : (s.data.toList.take (k + 1)).all isDg = true := by rw [hsn, List.all_append, hall]; simp [hz]
        have HAL := Lib.hid hal2
        have HDN := Lib.hid hdn
        have hq : v * 10 + (s[k].toNat - 48) ≤ 46116860184274042000 := by omega
        clear hz hdv hall hsn hal2 hdn
        by_cases hbig : maxI < v * 10 + (s[k].toNat - 48)
        · have hB : decide ((4611686018427387903 - ((s[k].toNat : Int) - 48)) / 10 < (v : Int)) = true := decide_eq_true (by unfold maxI at hbig; omega)
          have HR := Lib.hid (numV_big (s := s) (k := k + 1) (by rw [HDN.out]; exact hbig))
          clear hbig hq hb
          go_wp2_with fail
          refine (HD.out _).mono ?_
          rintro e w1 ⟨rfl, hw1⟩
          subst w1
          go_wp2_with fail
          go_ret2
          exact ⟨by rw [← HV.out, HR.out]; rfl, rfl⟩
        · have hB : decide ((4611686018427387903 - ((s[k].toNat : Int) - 48)) / 10 < (v : Int)) = false := decide_eq_false (by unfold maxI at hbig; omega)
          have hle : v * 10 + (s[k].toNat - 48) ≤ 4611686018427387903 := by unfold maxI at hbig; omega
          have hlei : (v : Int) * 10 + ((s[k].toNat : Int) - 48) ≤ 4611686018427387903 := by omega
          clear hbig hq hb
          go_wp2_with fail
          refine (HD.out _).mono ?_
          rintro e w1 ⟨rfl, hw1⟩
          subst w1
          go_wp2_with fail
          go_round
          case rel => exact ⟨k + 1, v * 10 + (s[k].toNat - 48), hlt, by go_num, congrArg (Value.int .i64) (by omega), by unfold maxI; omega, HDN.out, HAL.out⟩
          case measure => simp [intOf]; omega
    · have hfull : s.data.toList.take k = s.data.toList := List.take_of_length_le (by rw [len_data]; omega)
      rw [hfull] at hdv hall
      by_cases h0 : s.size = 0
      · have hl : s.data.toList = [] := by have := drop_end s (k := 0) (by omega); simpa using this
        have HR := Lib.hid (show numV s.data.toList = (0, false) from by rw [hl]; rfl)
        have hv0 : v = 0 := by rw [← hdv, hl]; rfl
        have he := toL_empty h0
        clear hfull hdv hall hl h0
        subst hv0
        go_wp2_with fail
        go_ret2
        exact ⟨by rw [← HV.out, HR.out]; rfl, rfl⟩
      · have HR := Lib.hid (show numV s.data.toList = (v, true) from by
          unfold numV numL
          rw [if_pos ⟨fun q => h0 (by rw [← len_data, q]; rfl), hall, by rw [hdv]; unfold maxI; exact hvm⟩, hdv])
        have hne := toL_isE (show 0 < s.size by omega)
        clear hfull hdv hall h0
        go_wp2_with fail
        go_ret2
        exact ⟨by rw [← HV.out, HR.out]; rfl, rfl⟩
/-- a slice of texts as it lies -/
structure SV (w : World) (a : Option Addr) (N : Nat) (ls : List (List UInt8)) : Prop where
  len : ls.length = N
  few : N ≤ 1000
  cell : ∀ (j : Nat) (l : List UInt8), ls[j]? = some l → ∃ g off, a = some ⟨g, off, none⟩ ∧ g < w.heap.size ∧ w.cell? ⟨g, off + j, none⟩ = some (.string ⟨l.toArray⟩)
theorem toL_mk (l : List UInt8) : (⟨l.toArray⟩ : ByteArray).toList = l := by rw [Lib.toList_data]
set_option maxRecDepth 100000 in
set_option maxHeartbeats 4000000 in
theorem ref_has {w : World} {a : Option Addr} {N c : Nat} {ls : List (List UInt8)} (hv : SV w a N ls) (s : ByteArray) :
    Calls Tryd.prog 54 #[.slice a N c, .string s] w fun e w' => e = .returned (.bool (decide (s.data.toList ∈ ls))) ∧ w' = w := by
  have hN := hv.few
  obtain ⟨res, hr⟩ : ∃ res, decide (s.data.toList ∈ ls) = res := ⟨_, rfl⟩
  rw [hr]
  have HV := Lib.hid hv
  have HR := Lib.hid hr
  clear hv hr
  go_enter Tryd.func54, Tryd.ntmps54
  go_wp2_with fail
  go_loop [5] (fun i => ∃ k : Nat, k ≤ N ∧ i = .int .i64 k ∧ decide (s.data.toList ∈ ls.drop k) = res) (fun i => N - (intOf i).toNat)
  case atStart => exact ⟨0, Nat.zero_le _, rfl, by simpa using HR.out⟩
  case round =>
    obtain ⟨k, hk, rfl, hres⟩ := hrel
    by_cases hlt : k < N
    · have hk0 : (0 : Int) ≤ k := by omega
      have hk1 : (k : Int) < N := by omega
      have hlk : k < ls.length := by rw [HV.out.len]; exact hlt
      rw [List.drop_eq_getElem_cons hlk] at hres
      obtain ⟨l, hl⟩ : ∃ l, ls[k] = l := ⟨_, rfl⟩
      rw [hl] at hres
      obtain ⟨g, off, ha, hg, hcl⟩ := HV.out.cell k l (by rw [List.getElem?_eq_getElem hlk, hl])
      subst ha
      by_cases he : l = s.data.toList
      · have hB : (l == s.toList) = true := by rw [Lib.toList_data]; simp [he]
        have HRES := Lib.hid (show true = res from by rw [← hres]; simp [he])
        clear he hl hres
        go_wp2_with fail
        go_ret
        exact ⟨by rw [← HRES.out]; rfl, rfl⟩
      · have hB : (l == s.toList) = false := by rw [Lib.toList_data]; simp [he]
        have HRES := Lib.hid (show decide (s.data.toList ∈ ls.drop (k + 1)) = res from by rw [← hres]; simp [Ne.symm he])
        clear he hl hres
        go_wp2_with fail
        go_round
        case rel => exact ⟨k + 1, by omega, by go_num, HRES.out⟩
        case measure => simp [intOf]; omega
    · rw [List.drop_eq_nil_of_le (by rw [HV.out.len]; omega)] at hres
      have HRES := Lib.hid (show false = res from by rw [← hres]; simp)
      clear hres
      go_wp2_with fail
      go_ret
      exact ⟨by rw [← HRES.out]; rfl, rfl⟩
end Go.Proofs.YtphhokpbkcdljaaDoor
