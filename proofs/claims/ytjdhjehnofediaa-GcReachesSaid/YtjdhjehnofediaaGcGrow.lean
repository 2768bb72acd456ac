/- GcGrows' reckoning: more roots reach no less; roots told twice reach as much. The contract of SameWords where the two lists are the same. Conditions: none. -/
import Derived.Test.YtjdhjehnofediaaGcBeg
namespace Go.Proofs.Ytjdhjehnofediaa
open Go Go.RowKit
section
variable {os : List Ob} {h W : Nat} {S : List Nat}
theorem meetS_in {met : List Nat} {n : Nat} (g : Good os h W S n) (hm : ∀ j ∈ met, j ∈ S) : ∃ m, meetS os h W met n = some m ∧ ∀ j ∈ m, j ∈ S := by
  rcases g with a | ⟨a, j, b, c⟩
  · exact ⟨met, meetS_int a, hm⟩
  · by_cases hj : j ∈ met
    · exact ⟨met, meetS_old a b hj, hm⟩
    · refine ⟨met ++ [j], meetS_new a b hj, fun i hi => ?_⟩
      rcases List.mem_append.1 hi with q | q
      · exact hm i q
      · obtain rfl := List.mem_singleton.1 q
        exact c
theorem meetL_in : ∀ (ns : List Nat) {met : List Nat}, (∀ n ∈ ns, Good os h W S n) → (∀ j ∈ met, j ∈ S) → ∃ m, meetL os h W met ns = some m ∧ ∀ j ∈ m, j ∈ S
  | [], met, _, hm => ⟨met, rfl, hm⟩
  | n :: ns, met, g, hm => by
    obtain ⟨m1, e1, h1⟩ := meetS_in (g n (by simp)) hm
    obtain ⟨m2, e2, h2⟩ := meetL_in ns (fun x hx => g x (by simp [hx])) h1
    exact ⟨m2, by unfold meetL; rw [e1]; exact e2, h2⟩
theorem bfs_in (gd : ∀ j ∈ S, ∀ n ∈ tagW os j, Good os h W S n) : ∀ (f i : Nat) {met : List Nat}, (∀ j ∈ met, j ∈ S) → ∃ m, bfs os h W f i met = some m ∧ ∀ j ∈ m, j ∈ S
  | 0, _, met, hm => ⟨met, rfl, hm⟩
  | f + 1, i, met, hm => by
    cases e1 : met[i]? with
    | none => exact ⟨met, by unfold bfs; rw [e1], hm⟩
    | some j =>
      obtain ⟨m1, e2, h1⟩ := meetL_in (tagW os j) (fun n hn => gd j (hm j (List.mem_of_getElem? e1)) n hn) hm
      obtain ⟨m2, e3, h2⟩ := bfs_in gd f (i + 1) h1
      exact ⟨m2, by rw [bfs_step e1, e2]; exact e3, h2⟩
/-- a closed set holds what is reached -/
theorem reach_in {ns : List Nat} (g : ∀ n ∈ ns, Good os h W S n) (gd : ∀ j ∈ S, ∀ n ∈ tagW os j, Good os h W S n) : ∃ m, reach os h W ns = some m ∧ ∀ j ∈ m, j ∈ S := by
  obtain ⟨m1, e1, h1⟩ := meetL_in ns (met := []) g (fun _ q => by cases q)
  obtain ⟨m2, e2, h2⟩ := bfs_in gd (os.length + 1) 0 h1
  exact ⟨m2, by unfold reach; rw [e1]; exact e2, h2⟩
theorem reach_less {a c mb : List Nat} (e : reach os h W (a ++ c) = some mb) : ∃ ma, reach os h W a = some ma ∧ ∀ j ∈ ma, j ∈ mb := by
  obtain ⟨g1, g2⟩ := reach_good e
  exact reach_in (fun n hn => g1 n (List.mem_append_left _ hn)) g2
theorem meetL_app : ∀ (xs ys : List Nat) (met : List Nat), meetL os h W met (xs ++ ys) = (meetL os h W met xs).bind fun m => meetL os h W m ys
  | [], ys, met => rfl
  | x :: xs, ys, met => by
    show (meetS os h W met x).bind _ = ((meetS os h W met x).bind _).bind _
    cases e : meetS os h W met x with
    | none => rfl
    | some m => exact meetL_app xs ys m
theorem meetL_stay : ∀ (ns : List Nat) {met : List Nat}, (∀ n ∈ ns, Good os h W met n) → meetL os h W met ns = some met
  | [], _, _ => rfl
  | n :: ns, met, g => by
    have h1 : meetS os h W met n = some met := by
      rcases g n (by simp) with a | ⟨a, j, b, c⟩
      · exact meetS_int a
      · exact meetS_old a b c
    unfold meetL
    rw [h1]
    exact meetL_stay ns (fun x hx => g x (by simp [hx]))
/-- roots that are told twice reach as much as told once -/
theorem reach_twice (ns : List Nat) : reach os h W (ns ++ ns) = reach os h W ns := by
  unfold reach
  rw [meetL_app]
  cases e : meetL os h W [] ns with
  | none => rfl
  | some m =>
    show (meetL os h W m ns).bind _ = _
    rw [meetL_stay ns (meetL_ext e).2]
end
theorem sum_erase {f : Nat → Nat} {x : Nat} : ∀ {l : List Nat}, x ∈ l → (l.map f).sum = f x + ((l.erase x).map f).sum
  | y :: l, hx => by
    by_cases e : y = x
    · subst e; simp
    · have hx' : x ∈ l := by
        rcases List.mem_cons.1 hx with q | q
        · exact absurd q.symm e
        · exact q
      rw [List.erase_cons_tail (by simpa using e), List.map_cons, List.map_cons, List.sum_cons, List.sum_cons, sum_erase hx']
      omega
theorem sum_less {f : Nat → Nat} : ∀ {a b : List Nat}, a.Nodup → (∀ x ∈ a, x ∈ b) → (a.map f).sum ≤ (b.map f).sum
  | [], _, _, _ => by simp
  | x :: a, b, hn, hs => by
    rw [sum_erase (hs x (by simp)), List.map_cons, List.sum_cons]
    have hn' := List.nodup_cons.1 hn
    have := sum_less (f := f) (a := a) (b := b.erase x) hn'.2 (fun y hy => (List.mem_erase_of_ne (fun (e : y = x) => hn'.1 (by rw [← e]; exact hy))).2 (hs y (by simp [hy])))
    omega
theorem live_less {os : List Ob} {h W : Nat} {a c mb : List Nat} (e : reach os h W (a ++ c) = some mb) : liveN os h W a ≤ liveN os h W (a ++ c) ∧ checkE os h W a = 0 := by
  obtain ⟨ma, e1, e2⟩ := reach_less e
  refine ⟨?_, by unfold checkE; rw [e1]⟩
  unfold liveN
  rw [e, e1]
  exact sum_less (reach_okm e1).nd e2
section
theorem same_empty (a b : Option Addr) (ca cb : Nat) (w : World) :
    Calls Try.prog 21 #[.slice a 0 ca, .slice b 0 cb] w fun e w' => e = .returned (.bool true) ∧ Below w.heap.size w w' := by
  go_enter Try.func21, Try.ntmps21
  go_wp2
  go_loopw [5] (fun i wr => i = .int .i64 0 ∧ wr = w) (fun _ _ => 0)
  case atStart => exact ⟨rfl, rfl⟩
  case round =>
    obtain ⟨rfl, rfl⟩ := hrel
    go_wp2
    go_ret
    exact ⟨rfl, Below.refl _ _⟩
set_option maxHeartbeats 2000000 in
/-- SameWords of two lists that are the same -/
theorem same_yes (b1 o1 c1 b2 o2 c2 n : Nat) (xs : List Nat) (hx : n ≤ 100000) (w : World) (hb1 : b1 < w.heap.size) (hb2 : b2 < w.heap.size)
    (h1 : ∀ j, j < n → w.cell? ⟨b1, o1 + j, none⟩ = some (.int .u64 (xs.getD j 0 : Nat))) (h2 : ∀ j, j < n → w.cell? ⟨b2, o2 + j, none⟩ = some (.int .u64 (xs.getD j 0 : Nat))) :
    Calls Try.prog 21 #[.slice (some ⟨b1, o1, none⟩) n c1, .slice (some ⟨b2, o2, none⟩) n c2] w fun e w' => e = .returned (.bool true) ∧ Below w.heap.size w w' := by
  have H1 := Lib.hid h1
  have H2 := Lib.hid h2
  clear h1 h2
  go_enter Try.func21, Try.ntmps21
  go_wp2
  go_loopw [5] (fun i wr => ∃ k : Nat, k ≤ n ∧ i = .int .i64 k ∧ Below w.heap.size w wr) (fun i _ => n - (intOf i).toNat)
  case atStart => exact ⟨0, by omega, rfl, Below.refl _ _⟩
  case round =>
    obtain ⟨k, hk, rfl, hB⟩ := hrel
    by_cases hlt : k < n
    · obtain ⟨x, hx1⟩ : ∃ x, xs.getD k 0 = x := ⟨_, rfl⟩
      have hcx : wr.cell? ⟨b1, o1 + k, none⟩ = some (.int .u64 (x : Nat)) := by rw [hB.cell (p := ⟨b1, o1 + k, none⟩) hb1, H1.out k hlt, hx1]
      have hcy : wr.cell? ⟨b2, o2 + k, none⟩ = some (.int .u64 (x : Nat)) := by rw [hB.cell (p := ⟨b2, o2 + k, none⟩) hb2, H2.out k hlt, hx1]
      have hdn : ((x : Int) != (x : Int)) = false := by simp
      clear hx1
      go_wp2
      go_quiet (fail)
      go_wp2
      go_roundw
      case rel => exact ⟨k + 1, hlt, by simp, ⟨hB.os, hB.tape, hB.output, hB.size, hB.block⟩⟩
      case measure => simp [intOf]; omega
    · obtain rfl : k = n := by omega
      go_wp2
      go_ret
      exact ⟨rfl, hB⟩
/-- what some cells hold, from an own row, be it nil or not, and from its midst -/
theorem own_half {w : World} {B : Nat} {a : Option Addr} {n c : Nat} {xs : List Nat} (ho : w.ownsRow B 56 1 (.slice a (n + n) c) (n + n) (u64s (xs ++ xs))) (hn : xs.length = n) :
    (a = none ∧ n = 0) ∨ ∃ g, a = some ⟨g, 0, none⟩ ∧ g < w.heap.size ∧ n + n ≤ c ∧ (∀ j, j < n → w.cell? ⟨g, 0 + j, none⟩ = some (.int .u64 (xs.getD j 0 : Nat))) ∧ ∀ j, j < n → w.cell? ⟨g, n + j, none⟩ = some (.int .u64 (xs.getD j 0 : Nat)) := by
  have ho' := ho
  rcases ho.2 with ⟨hv, h0⟩ | ⟨g, cap, cur, hv, hb, hg, h1, h2, h3, h4⟩
  · injection hv with e1 e2 e3
    exact .inl ⟨e1, by omega⟩
  · injection hv with e1 e2 e3
    subst e1 e3
    have hc : ∀ j, j < n + n → w.cell? ⟨g, j, none⟩ = (u64s (xs ++ xs))[j]? := fun j hj => ho'.cellAt j (by omega)
    refine .inr ⟨g, rfl, (Array.getElem?_eq_some_iff.1 hg).1, h1, fun j hj => ?_, fun j hj => ?_⟩
    · rw [Nat.zero_add, hc j (by omega)]
      unfold u64s
      rw [List.getElem?_map, List.getElem?_append_left (by omega), List.getElem?_eq_getElem (by omega), List.getD_eq_getElem?_getD, List.getElem?_eq_getElem (by omega)]
      rfl
    · rw [hc (n + j) (by omega)]
      unfold u64s
      rw [List.getElem?_map, List.getElem?_append_right (by omega), show n + j - xs.length = j by omega, List.getElem?_eq_getElem (by omega), List.getD_eq_getElem?_getD, List.getElem?_eq_getElem (by omega)]
      rfl
end
end Go.Proofs.Ytjdhjehnofediaa
