/- The Writer as a state of the world; awake. No conditions but those that each names. -/
import Derived.Test.YtkljpidlfddgbaaCc
import Derived.Test.YtkljpidlfddgbaaCf
namespace Go.Proofs.Ytkljpidlfddgbaa
set_option maxRecDepth 100000
open Go.RowKit Rg B


open W R
namespace W
/-- A Writer to which the c bits of X were put, and other rows M. -/
def WrS (u w : World) (M' : List Row) (N X c : Nat) : Prop := X < 2 ^ c ∧ ∃ p C, Own u w ((N, wc p (op X c) c, 49) :: (C ++ M')) ∧ Chn C X (c / 2048) p
theorem WrS.new {u w : World} {M' : List Row} {N : Nat} (h : Own u w ((N, wc none (fun _ => 0) 0, 49) :: M')) : WrS u w M' N 0 0 :=
  ⟨by decide, none, [], by
    have e : wc none (op 0 0) 0 = wc none (fun _ => 0) 0 := wc_congr fun k _ => M.byt_hi (c := 0) (by decide) (Nat.zero_le _)
    rw [e]; exact h, rfl⟩
theorem WrS.call {u w w' : World} {M' : List Row} {N X c : Nat} (h : WrS u w M' N X c) (hb : Below w.heap.size w w') : WrS u w' M' N X c := by
  obtain ⟨hX, p, C, hO, hC⟩ := h
  exact ⟨hX, p, C, hO.call hb, hC⟩
theorem WrS.low {u w : World} {M' : List Row} {N X c : Nat} (h : WrS u w M' N X c) : Below u.heap.size u w := by
  obtain ⟨hX, p, C, hO, hC⟩ := h
  exact hO.low
theorem WrS.blk {u w : World} {M' : List Row} {N X c : Nat} (h : WrS u w M' N X c) : ∃ p, Blk w N (wc p (op X c) c) 49 ∧ ChB w X (c / 2048) p := by
  obtain ⟨hX, p, C, hO, hC⟩ := h
  exact ⟨p, hO.row 0 rfl, hC.blk fun r hr => hO.blk r (List.mem_cons_of_mem _ (List.mem_append_left _ hr))⟩
theorem WrS.row {u w : World} {M' : List Row} {N X c : Nat} (h : WrS u w M' N X c) (j : Nat) {b : Nat} {d : Array Value} {t : TypeId} (hj : M'[j]? = some (b, d, t)) : Blk w b d t := by
  obtain ⟨hX, p, C, hO, hC⟩ := h
  exact hO.blk (b, d, t) (List.mem_cons_of_mem _ (List.mem_append_right _ (List.mem_of_getElem? hj)))
/-- Rows that a call has laid. -/
theorem WrS.join {u w w' : World} {M' L : List Row} {N X c : Nat} (h : WrS u w M' N X c) (h' : Own w w' L) : WrS u w' (M' ++ L) N X c := by
  obtain ⟨hX, p, C, hO, hC⟩ := h
  refine ⟨hX, p, C, ?_, hC⟩
  have := own_join hO h'
  rwa [List.cons_append, List.append_assoc] at this
/-- The other rows, ahead. -/
theorem WrS.open {u w : World} {M' : List Row} {N X c : Nat} (h : WrS u w M' N X c) : ∃ T, Own u w (M' ++ T) ∧ ∀ w' L, Own u w' (L ++ T) → WrS u w' L N X c := by
  obtain ⟨hX, p, C, hO, hC⟩ := h
  have hp : ∀ L : List Row, ((N, wc p (op X c) c, 49) :: (C ++ L)).Perm (L ++ ((N, wc p (op X c) c, 49) :: C)) := fun L => (List.perm_append_comm (l₁ := (N, wc p (op X c) c, 49) :: C) (l₂ := L))
  exact ⟨(N, wc p (op X c) c, 49) :: C, hO.perm (hp M'), fun w' L h => ⟨hX, p, C, h.perm (hp L).symm, hC⟩⟩
theorem WPut {X v c bits X' c' : Nat} (hv : v < 2 ^ bits) (hb : bits ≤ 32) (hc : c < 2 ^ 39) (hX' : X + v * 2 ^ c = X') (hc' : c + bits = c') (N : Nat) (u : World) (M' : List Row) (w : World) (h : WrS u w M' N X c) :
    RetP 40 #[D N, Nv .u64 v, Nv .i64 bits] w fun x w' => x = Nv .i64 0 ∧ WrS u w' M' N X' c' := by
  obtain ⟨hX, p, C, hO, hC⟩ := h
  subst hX' hc'
  refine (Put_c hX hv hb hc N u _ w hO).mono fun e w' hh => ?_
  obtain ⟨he, p', C', hO', hC'⟩ := hh
  exact ⟨_, he, rfl, M.put_lt hX hv, p', C' ++ C, by rw [List.append_assoc]; exact hO', hC' C hC⟩
theorem WBytes {X c n : Nat} (hn : n = (c + 7) / 8) (hc : c < 2 ^ 40) (N : Nat) (u : World) (M' : List Row) (w : World) (h : WrS u w M' N X c) :
    RetP 24 #[D N] w fun x w' => ∃ q, x = .slice (some ⟨q, 0, none⟩) n n ∧ WrS u w' (M' ++ [(q, vals .u8 n (byt X), 5)]) N X c := by
  obtain ⟨p, hB, hC⟩ := h.blk
  refine (Bytes_c hn hc N w hB hC).mono fun e w' hh => ?_
  obtain ⟨q, he, hO⟩ := hh
  exact ⟨_, he, q, rfl, h.join hO⟩
theorem WCount {X c : Nat} (N : Nat) (u : World) (M' : List Row) (w : World) (h : WrS u w M' N X c) : Ret 26 #[D N] w (Nv .i64 c) := by
  obtain ⟨p, hB, _⟩ := h.blk
  exact Count_c N w hB
theorem New_p {S : Option Addr} {n c : Nat} {f : Nat → Nat} (hn : n ≤ 2 ^ 40) (w : World) (hA : Rc w S n (by8 f)) : RetP 27 #[.slice S n c] w fun x w' => ∃ N q, x = D N ∧ Own w w' [(N, rc q n 0, 92), (q, vals .u8 n f, 5)] := by
  refine (New_c hn w hA).mono fun e w' hh => ?_
  obtain ⟨N, q, he, hO⟩ := hh
  exact ⟨_, he, N, q, rfl, hO⟩
end W
end Go.Proofs.Ytkljpidlfddgbaa
