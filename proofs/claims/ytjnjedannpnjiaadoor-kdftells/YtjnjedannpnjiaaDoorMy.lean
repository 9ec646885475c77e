/- What is asked of the program's functions; with it, the laws of chapter 4 are walked. -/
import Derived.Test.YtjnjedannpnjiaaDoorRt
import Derived.Test.YtjnjedannpnjiaaDoorMx
namespace Go.Proofs.YtjnjedannpnjiaaDoor
open Go.RowKit

/-- mac.Sum's contract. -/
def SumOk : Prop := ∀ (A : Option Addr) (k : List Nat) (cap : Nat) (P : Option Addr) (ps : List Pt) (pcap : Nat) (args : Array Value) (w : World), args = #[.slice A k.length cap, .slice P ps.length pcap] → Glob w → Rds w A k → k.length ≤ cap → (∀ x ∈ k, x < 256) → Prt w P ps → PtOk w ps → k.length < 2 ^ 29 → (cat ps).length < 2 ^ 29 → ps.length < 2 ^ 29 →
    Calls Tryd.prog 14 args w fun e w' => e = .returned (.agg (vals .u8 64 (mc k (cat ps)))) ∧ Below w.heap.size w w'
theorem mac_one (h0 : SumOk) (A B : Option Addr) (k l : List Nat) (ca cb b : Nat) (t : TypeId) (args : Array Value) (w : World) (h : args = #[.slice A k.length ca, .slice (some ⟨b, 0, none⟩) 1 1]) (hB : Blk w b #[.slice B l.length cb] t) (hG : Glob w) (hA : Rds w A k) (hc : k.length ≤ ca) (hk : ∀ x ∈ k, x < 256) (hA2 : Rds w B l) (hc2 : l.length ≤ cb) (hl : ∀ x ∈ l, x < 256) (hs : k.length < 2 ^ 29) (hs2 : l.length < 2 ^ 29) :
    Calls Tryd.prog 14 args w fun e w' => e = .returned (.agg (vals .u8 64 (mc k l))) ∧ Below w.heap.size w w' := by
  have e : cat [(B, l, cb)] = l := by simp [cat]
  have := h0 A k ca (some ⟨b, 0, none⟩) [(B, l, cb)] 1 args w h hG hA hc hk (prt_blk hB _ fun i q hq => by
    rcases i with _ | i
    · obtain rfl := Option.some.inj hq; rfl
    · cases hq) (fun q hq => by
    obtain rfl : q = (B, l, cb) := by simpa using hq
    exact ⟨hA2, hc2, hl⟩) hs (by rw [e]; exact hs2) (by simp)
  rw [e] at this
  exact this
/- The code is spoken of as a variable f in the walks: else the kernel reckons with it. -/
theorem mac_onef (f : Nat → Nat) (h0 : SumOk) (A B : Option Addr) (k l : List Nat) (hf : f = mc k l) (ca cb b : Nat) (t : TypeId) (args : Array Value) (w : World) (h : args = #[.slice A k.length ca, .slice (some ⟨b, 0, none⟩) 1 1]) (hB : Blk w b #[.slice B l.length cb] t) (hG : Glob w) (hA : Rds w A k) (hc : k.length ≤ ca) (hk : ∀ x ∈ k, x < 256) (hA2 : Rds w B l) (hc2 : l.length ≤ cb) (hl : ∀ x ∈ l, x < 256) (hs : k.length < 2 ^ 29) (hs2 : l.length < 2 ^ 29) :
    Calls Tryd.prog 14 args w fun e w' => e = .returned (.agg (vals .u8 64 f)) ∧ Below w.heap.size w w' := by
  rw [hf]; exact mac_one h0 A B k l ca cb b t args w h hB hG hA hc hk hA2 hc2 hl hs hs2
theorem rmac_f (f : Nat → Nat) (A A2 : Option Addr) (k l : List Nat) (hf : f = mc k l) (cap cap2 : Nat) (args : Array Value) (w : World) (h : args = #[.slice A k.length cap, .slice A2 l.length cap2]) (hA : Rds w A k) (hcap : k.length ≤ cap) (hk : ∀ x ∈ k, x < 256) (hn : k.length < 2 ^ 29) (hA2 : Rds w A2 l) (hcap2 : l.length ≤ cap2) (hl : ∀ x ∈ l, x < 256) (hn2 : l.length < 2 ^ 29) :
    Calls Tryd.prog 16 args w fun e w' => e = .returned (.agg (vals .u8 64 f)) ∧ Below w.heap.size w w' := by
  rw [hf]; exact rmac_at A A2 k l cap cap2 args w h hA hcap hk hn hA2 hcap2 hl hn2
end Go.Proofs.YtjnjedannpnjiaaDoor
