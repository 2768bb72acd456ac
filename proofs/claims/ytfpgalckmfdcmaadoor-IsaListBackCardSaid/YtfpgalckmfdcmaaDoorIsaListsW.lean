/- The walks of the statements IsaLists and IsaListBack: they return true. Conditions: the library's tables and bound and the table of operations read as they are laid; the instructions lie in memory. -/
import Derived.Test.YtfpgalckmfdcmaaDoorIsaListR
import Derived.Test.YtfpgalckmfdcmaaDoorIsaRead
import Derived.Test.YtfpgalckmfdcmaaDoorIsaSame
import Derived.Test.YtfpgalckmfdcmaaDoorIsaLstB
namespace Go.Proofs.YtfpgalckmfdcmaaDoor
open Go Go.RowKit Go.Shelf
/-- what stays over the calls, the library's bound too -/
structure KL (m : Int) (w W : World) : Prop where
  kn : Kn w W
  cm : W.cell? ⟨1, 0, none⟩ = some (.int .i64 m)
theorem KL.below {m : Int} {w W W' : World} (h : KL m w W) (hb : Below W.heap.size W W') : KL m w W' := ⟨h.kn.below hb, (hb.cell (World.block_lt_of_cell? W _ h.cm)).trans h.cm⟩
theorem KL.drewN {m : Int} {w W : World} (h : KL m w W) (n : Nat) : KL m w (W.drewN n) := h.below ⟨rfl, rfl, rfl, Nat.le_refl _, fun _ _ => rfl⟩
theorem sli_later {W W2 : World} {A : Option Addr} {n cap : Nat} {l : List I5} (h : SlI W W.heap.size A n cap l) (hb : Below W.heap.size W W2) : SlI W2 W2.heap.size A n cap l := (h.below hb).more hb.size
theorem islist_to (A : Option Addr) (n cap : Nat) (l : List I5) (T : List UInt8) (E : Int) (hT : listR l = (T, E)) (w : World) (ho : Ops w) (ht : Tab w) (hl : SlI w w.heap.size A n cap l) :
    Calls Tryd.prog 14 #[.slice A n cap] w fun e w' => e = .returned (.tuple #[.string ⟨T.toArray⟩, .int .i64 E]) ∧ Below w.heap.size w w' := by
  have h := islist_any A n cap l w ho ht hl
  rw [hT] at h
  exact h
theorem reflist_to (A : Option Addr) (n cap : Nat) (l : List I5) (T : List UInt8) (E : Int) (hT : listR l = (T, E)) (w : World) (hl : SlI w w.heap.size A n cap l) :
    Calls Tryd.prog 15 #[.slice A n cap] w fun e w' => e = .returned (.tuple #[.string ⟨T.toArray⟩, .int .i64 E]) ∧ Below w.heap.size w w' := by
  have h := reflist_any A n cap l w hl
  rw [hT] at h
  exact h
set_option maxRecDepth 100000 in
set_option maxHeartbeats 4000000 in
theorem isaLists_walk (A : Option Addr) (n cap : Nat) (l : List I5) (s : ByteArray) (m : Int) (w : World) (ho : Ops w) (ht : Tab w) (hm : w.cell? ⟨1, 0, none⟩ = some (.int .i64 m)) (hl : SlI w w.heap.size A n cap l) :
    Calls Tryd.prog 5 #[.slice A n cap, .string s] w fun e w' => e = .returned (.bool true) ∧ Below w.heap.size w w' := by
  have hc1 := hl.cap1
  have hc2 := hl.cap2
  have HK0 := Lib.hid (KL.mk (Kn.mk (Below.refl w.heap.size w) ho ht) hm)
  have HL0 := Lib.hid hl
  clear ho ht hm hl
  by_cases h5 : 5000 < n
  · have hd : decide ((5000 : Int) < (n : Int)) = true := decide_eq_true (by omega)
    go_enter Tryd.func5, Tryd.ntmps5
    go_wp2_with fail
    refine (known_any _ HK0.out.kn.ops HK0.out.kn.tab).mono ?_
    rintro e w1 ⟨rfl, hb⟩
    have HB := Lib.hid hb
    clear hb
    go_wp2_with fail
    go_ret
    exact ⟨rfl, HB.out⟩
  · have hd : decide ((5000 : Int) < (n : Int)) = false := decide_eq_false (by omega)
    by_cases h6 : 60000 < s.size
    · have hd6 : decide ((60000 : Int) < (s.size : Int)) = true := decide_eq_true (by omega)
      go_enter Tryd.func5, Tryd.ntmps5
      go_wp2_with fail
      refine (known_any _ HK0.out.kn.ops HK0.out.kn.tab).mono ?_
      rintro e w1 ⟨rfl, hb⟩
      have HB := Lib.hid hb
      clear hb
      go_wp2_with fail
      go_ret
      exact ⟨rfl, HB.out⟩
    · have hd6 : decide ((60000 : Int) < (s.size : Int)) = false := decide_eq_false (by omega)
      have hs : s.size ≤ 60000 := by omega
      obtain ⟨⟨T, E⟩, hT⟩ : ∃ R, listR l = R := ⟨_, rfl⟩
      have HT := Lib.hid hT
      have tt : (T == T) = true := by simp
      have te : (E == E) = true := by simp
      clear hT
      go_enter Tryd.func5, Tryd.ntmps5
      go_wp2_with fail
      refine (islist_to A n cap l T E HT.out _ HK0.out.kn.ops HK0.out.kn.tab HL0.out).mono ?_
      rintro e w1 ⟨rfl, hb⟩
      have HK1 := Lib.hid (HK0.out.below hb)
      have HL1 := Lib.hid (sli_later HL0.out hb)
      clear hb
      go_wp2_with fail
      refine (reflist_to A n cap l T E HT.out _ HL1.out).mono ?_
      rintro e w2 ⟨rfl, hb⟩
      have HK2 := Lib.hid (HK1.out.below hb)
      clear hb
      go_wp2_with fail
      refine (isread_any s hs m _ HK2.out.kn.ops HK2.out.kn.tab HK2.out.cm).mono ?_
      rintro e w3 ⟨⟨v, xs, p, er, rfl, hr, hown⟩, hb⟩
      obtain ⟨A1, cap1, rfl, hs1⟩ := SlI.of_own hown
      have HK3 := Lib.hid (HK2.out.below hb)
      have HR3 := Lib.hid hr
      have HS3 := Lib.hid hs1
      clear hb hr hown hs1
      go_wp2_with fail
      refine (refread_any s hs _).mono ?_
      rintro e w4 ⟨⟨v', ys, p', er', rfl, hr', hown'⟩, hb⟩
      obtain ⟨rfl, rfl, rfl⟩ := HR3.out.unique hr'
      obtain ⟨A2, cap2, rfl, hs2⟩ := SlI.of_own hown'
      have HK4 := Lib.hid (HK3.out.below hb)
      have HS4 := Lib.hid (sli_later HS3.out hb)
      have HS5 := Lib.hid hs2
      have pp : (p == p) = true := by simp
      have ee : (er == er) = true := by simp
      clear hb hr' hown' hs2
      go_wp2_with fail
      refine (same_yes A1 A2 _ cap1 cap2 _ _ HS4.out HS5.out).mono ?_
      rintro e w5 ⟨rfl, q, hw5⟩
      have HK5 : Hid (KL m w w5) := Lib.hid (by rw [hw5]; exact HK4.out.drewN q)
      clear hw5
      go_wp2_with fail
      refine (known_any _ HK5.out.kn.ops HK5.out.kn.tab).mono ?_
      rintro e w6 ⟨rfl, hb⟩
      have HK6 := Lib.hid (HK5.out.below hb)
      clear hb
      go_wp2_with fail
      go_ret
      exact ⟨rfl, HK6.out.kn.base⟩
theorem isread_to (T : List UInt8) (hs : T.length ≤ 60000) (m : Int) (w : World) (ho : Ops w) (ht : Tab w) (hm : w.cell? ⟨1, 0, none⟩ = some (.int .i64 m)) (xs : List I5) (a er : Int) (hu : ∀ ys b f, IsRead (linesOf T) ys b f → ys = xs ∧ b = a ∧ f = er) :
    Calls Tryd.prog 16 #[.string ⟨T.toArray⟩] w fun e w' => (∃ A cap, e = .returned (.tuple #[.slice A xs.length cap, .int .i64 a, .int .i64 er]) ∧ SlI w' w'.heap.size A xs.length cap xs) ∧ Below w.heap.size w w' := by
  refine (isread_any ⟨T.toArray⟩ (by show T.toArray.size ≤ _; rw [List.size_toArray]; exact hs) m w ho ht hm).mono ?_
  rintro e w3 ⟨⟨v, ys, p, f, rfl, hr, hown⟩, hb⟩
  obtain ⟨rfl, rfl, rfl⟩ := hu ys p f hr
  obtain ⟨A1, cap1, rfl, hs1⟩ := SlI.of_own hown
  exact ⟨⟨A1, cap1, rfl, hs1⟩, hb⟩
set_option maxRecDepth 100000 in
set_option maxHeartbeats 4000000 in
theorem isaListBack_walk (A : Option Addr) (n cap : Nat) (l : List I5) (more : ByteArray) (m : Int) (w : World) (ho : Ops w) (ht : Tab w) (hm : w.cell? ⟨1, 0, none⟩ = some (.int .i64 m)) (hl : SlI w w.heap.size A n cap l) :
    Calls Tryd.prog 7 #[.slice A n cap, .string more] w fun e w' => e = .returned (.bool true) ∧ Below w.heap.size w w' := by
  have hc1 := hl.cap1
  have hc2 := hl.cap2
  have hn := hl.len
  have HK0 := Lib.hid (KL.mk (Kn.mk (Below.refl w.heap.size w) ho ht) hm)
  have HL0 := Lib.hid hl
  have HN := Lib.hid hn
  clear ho ht hm hl hn
  by_cases h5 : 1000 < n
  · have hd : decide ((1000 : Int) < (n : Int)) = true := decide_eq_true (by omega)
    go_enter Tryd.func7, Tryd.ntmps7
    go_wp2_with fail
    refine (known_any _ HK0.out.kn.ops HK0.out.kn.tab).mono ?_
    rintro e w1 ⟨rfl, hb⟩
    have HB := Lib.hid hb
    clear hb
    go_wp2_with fail
    go_ret
    exact ⟨rfl, HB.out⟩
  · have hd : decide ((1000 : Int) < (n : Int)) = false := decide_eq_false (by omega)
    by_cases h6 : 1000 < more.size
    · have hd6 : decide ((1000 : Int) < (more.size : Int)) = true := decide_eq_true (by omega)
      go_enter Tryd.func7, Tryd.ntmps7
      go_wp2_with fail
      refine (known_any _ HK0.out.kn.ops HK0.out.kn.tab).mono ?_
      rintro e w1 ⟨rfl, hb⟩
      have HB := Lib.hid hb
      clear hb
      go_wp2_with fail
      go_ret
      exact ⟨rfl, HB.out⟩
    · have hd6 : decide ((1000 : Int) < (more.size : Int)) = false := decide_eq_false (by omega)
      have hs : more.size ≤ 1000 := by omega
      obtain ⟨M, hM⟩ : ∃ M, more.data.toList = M := ⟨_, rfl⟩
      have hMl : M.length ≤ 1000 := by rw [← hM, Array.length_toList]; exact hs
      by_cases hg : ∀ x ∈ l, x.chk = 0
      · obtain ⟨T, hT⟩ : ∃ T, listT l = T := ⟨_, rfl⟩
        have hR : listR l = (T, 0) := by rw [← hT]; exact listR_all (by rw [HN.out]; omega) hg
        have hTl : T.length ≤ 51000 := by
          have := listT_len50 l
          rw [HN.out, hT] at this
          omega
        have HU1 := Lib.hid (fun ys b f (h : IsRead (linesOf T) ys b f) => read_back hg (by rw [HN.out]; omega) (by rw [hT]; exact h))
        have HU2 := Lib.hid (fun ys b f (h : IsRead (linesOf (T ++ (63 :: M))) ys b f) => (by rw [← HN.out]; exact read_more hg (by rw [HN.out]; omega) hMl (by rw [hT]; exact h) : ys = [] ∧ b = (n : Int) ∧ f = 32))
        have hcat : (⟨T.toArray⟩ : ByteArray) ++ ⟨#[63]⟩ ++ more = ⟨(T ++ (63 :: M)).toArray⟩ := by
          apply ByteArray.ext
          apply Array.ext'
          simp [ByteArray.data_append, hM]
        have hcl : (T ++ (63 :: M)).length ≤ 60000 := by rw [List.length_append, List.length_cons]; omega
        have HR := Lib.hid hR
        have HCL := Lib.hid hcl
        clear hT hR hM hMl hg hcl
        go_enter Tryd.func7, Tryd.ntmps7
        go_wp2_with fail
        refine (islist_to A n cap l T 0 HR.out _ HK0.out.kn.ops HK0.out.kn.tab HL0.out).mono ?_
        rintro e w1 ⟨rfl, hb⟩
        have HK1 := Lib.hid (HK0.out.below hb)
        have HL1 := Lib.hid (sli_later HL0.out hb)
        clear hb
        go_wp2_with fail
        refine (isread_to T (Nat.le_trans hTl (by decide)) m _ HK1.out.kn.ops HK1.out.kn.tab HK1.out.cm l 0 0 HU1.out).mono ?_
        rintro e w2 ⟨⟨A2, cap2, rfl, hs2⟩, hb⟩
        rw [HN.out] at hs2 ⊢
        have HK2 := Lib.hid (HK1.out.below hb)
        have HL2 := Lib.hid (sli_later HL1.out hb)
        have HS2 := Lib.hid hs2
        clear hb hs2
        go_wp2_with fail
        refine (same_yes A2 A n cap2 cap l _ HS2.out HL2.out).mono ?_
        rintro e w3 ⟨rfl, q, hw3⟩
        have HK3 : Hid (KL m w w3) := Lib.hid (by rw [hw3]; exact HK2.out.drewN q)
        clear hw3
        go_wp2_with fail
        refine (isread_to (T ++ (63 :: M)) HCL.out m _ HK3.out.kn.ops HK3.out.kn.tab HK3.out.cm [] n 32 HU2.out).mono ?_
        rintro e w4 ⟨⟨A4, cap4, rfl, _⟩, hb⟩
        simp only [List.length_nil]
        have HK4 := Lib.hid (HK3.out.below hb)
        have hnn : ((n : Int) == (n : Int)) = true := by simp
        clear hb
        go_wp2_with fail
        refine (known_any _ HK4.out.kn.ops HK4.out.kn.tab).mono ?_
        rintro e w6 ⟨rfl, hb⟩
        have HK6 := Lib.hid (HK4.out.below hb)
        clear hb
        go_wp2_with fail
        go_ret
        exact ⟨rfl, HK6.out.kn.base⟩
      · have hx : ∃ x, l.find? (fun x => x.chk != 0) = some x := by
          cases q : l.find? (fun x => x.chk != 0) with
          | some x => exact ⟨x, rfl⟩
          | none =>
            exfalso
            apply hg
            intro x hx
            have := List.find?_eq_none.1 q x hx
            simpa using this
        obtain ⟨x, hx⟩ := hx
        have hxc : x.chk ≠ 0 := by
          have := List.find?_some hx
          simpa using this
        have hR : listR l = ([], x.chk) := by
          unfold listR
          rw [if_neg (by rw [HN.out]; omega), hx]
        obtain ⟨E, hE⟩ : ∃ E, x.chk = E := ⟨_, rfl⟩
        rw [hE] at hR hxc
        have hq : (E != 0) = true := by simpa using hxc
        have HR := Lib.hid hR
        clear hx hxc hR hE hg hM hMl
        go_enter Tryd.func7, Tryd.ntmps7
        go_wp2_with fail
        refine (islist_to A n cap l [] E HR.out _ HK0.out.kn.ops HK0.out.kn.tab HL0.out).mono ?_
        rintro e w1 ⟨rfl, hb⟩
        have HK1 := Lib.hid (HK0.out.below hb)
        clear hb
        go_wp2_with fail
        refine (known_any _ HK1.out.kn.ops HK1.out.kn.tab).mono ?_
        rintro e w6 ⟨rfl, hb⟩
        have HK6 := Lib.hid (HK1.out.below hb)
        clear hb
        go_wp2_with fail
        go_ret
        exact ⟨rfl, HK6.out.kn.base⟩
end Go.Proofs.YtfpgalckmfdcmaaDoor
