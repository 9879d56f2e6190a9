/- node.fresh, node.orNil. -/
import Derived.Test.YtnapepbdohidgaaGreatDoorInsert
namespace Go.Proofs.YtnapepbdohidgaaGreatDoor
open Go.RowKit

theorem owns_form {w : World} {base : Nat} {e : TypeId} {size : Nat} {v : Value} {n : Nat} {xs : List Value} (h : w.ownsRow base e size v n xs) : ∃ a cap, v = .slice a n cap ∧ (a = none → cap = 0) := by
  rcases h.2 with ⟨rfl, rfl⟩ | ⟨g, cap, cur, rfl, _⟩
  · exact ⟨none, 0, rfl, fun _ => rfl⟩
  · exact ⟨_, cap, rfl, fun h => by cases h⟩

/-- A node of the call's own, made out of one that is there. -/
structure Made (A : Nat → Prop) (n : Nat) (w w' : World) (f : List UInt8 → List Ver) (g : Nat) (hv kv : Value) (ks : List (UInt8 × Option Addr)) : Prop where
  below : Below w.heap.size w w'
  node : w'.ownsRow w.heap.size 159 3 (.slice (some ⟨g, 0, none⟩) 1 1) 1 [.bool (!(f []).isEmpty), hv, kv]
  kids : w'.ownsRow w.heap.size 190 2 kv ks.length (kidCells ks)
  apart : kv.ownBlock ≠ some g
  hist : HistAt A w hv (f [])
  sorted : ks.Pairwise (fun a b => a.1 < b.1)
  child : ∀ c q, (c, q) ∈ ks → NodeAt A n w q (fun k => f (c :: k))
  noKid : ∀ c, (∀ q, (c, q) ∉ ks) → ∀ k, f (c :: k) = []

set_option maxHeartbeats 1000000 in
theorem fresh_nil (w : World) : Calls Tryz.prog 114 #[.pointer none] w fun e w' => e = .returned (.pointer (some ⟨w.heap.size, 0, none⟩)) ∧ w' = w.alloc (.cells #[.bool false, .slice none 0 0, .slice none 0 0] 159) := by
  go_enter Tryz.func114, Tryz.ntmps114
  go_wp2
  go_ret
  exact ⟨rfl, rfl⟩

set_option maxHeartbeats 1000000 in
theorem fresh_some (A : Nat → Prop) (g : Nat) (full : Bool) (ha : Option Addr) (hl hc : Nat) (ka : Option Addr) (kl kc : Nat) (ks : List (UInt8 × Option Addr)) (w : World)
    (c0 : w.cell? ⟨g, 0, none⟩ = some (.bool full)) (c1 : w.cell? ⟨g, 1, none⟩ = some (.slice ha hl hc)) (c2 : w.cell? ⟨g, 2, none⟩ = some (.slice ka kl kc)) (hk : KidsAt A w (.slice ka kl kc) ks) (hn : ks.length ≤ 256) :
    Calls Tryz.prog 114 #[.pointer (some ⟨g, 0, none⟩)] w fun e w' => ∃ w1 va vl vc, e = .returned (.pointer (some ⟨w1.heap.size, 0, none⟩)) ∧ w1.ownsRow w.heap.size 190 2 (.slice va vl vc) ks.length (kidCells ks) ∧ Below w.heap.size w w1 ∧
      w' = w1.alloc (.cells #[.bool full, .slice ha hl hc, .slice va vl vc] 159) := by
  have hcl : ∀ wq : World, wq.heap = w.heap → Calls Tryz.prog 132 #[.slice ka kl kc] wq fun e w' => ∃ v', e = .returned v' ∧ w'.ownsRow wq.heap.size 190 2 v' ks.length (kidCells ks) ∧ Below wq.heap.size wq w' := fun wq hq =>
    cloneK_any A _ ks wq (hk.keep (fun b hb _ => ⟨hb, by rw [hq]⟩)) hn
  have HCL : Hid (∀ wq : World, wq.heap = w.heap → Calls Tryz.prog 132 #[.slice ka kl kc] wq fun e w' => ∃ v', e = .returned v' ∧ w'.ownsRow wq.heap.size 190 2 v' ks.length (kidCells ks) ∧ Below wq.heap.size wq w') := hcl
  clear hcl hk
  go_enter Tryz.func114, Tryz.ntmps114
  go_wp2_with fail
  go_region_held3 (fun w' => w'.cell? ⟨g, 0, none⟩ = some (.bool full) ∧ w'.cell? ⟨g, 1, none⟩ = some (.slice ha hl hc) ∧ w'.cell? ⟨g, 2, none⟩ = some (.slice ka kl kc)) (go_keep)
    (first | (go_at_call 132; refine (HCL.out _ ?_).mono ?_; rfl; rintro e w' ⟨v', rfl, hown, hb⟩; obtain ⟨va, vc, rfl, -⟩ := owns_form hown; have k0 := cellOn (W := w.drew) hb c0; have k1 := cellOn (W := w.drew) hb c1; have k2 := cellOn (W := w.drew) hb c2))
  go_wp2
  go_ret
  exact ⟨w', va, _, vc, rfl, hown, (Below.refl _ w).drew.trans hb, rfl⟩

theorem owns_lit3 (w : World) (base : Nat) (x y z : Value) (hb : base ≤ w.heap.size) : (w.alloc (.cells #[x, y, z] 159)).ownsRow base 159 3 (.slice (some ⟨w.heap.size, 0, none⟩) 1 1) 1 [x, y, z] :=
  World.ownsRow_lit w #[x, y, z] 1 hb (by simp only [maxLen]; omega) rfl

theorem fresh_any (A : Nat → Prop) (n : Nat) (p : Option Addr) (f : List UInt8 → List Ver) (w : World) (h : NodeAt A (n + 1) w p f) :
    Calls Tryz.prog 114 #[.pointer p] w fun e w' => ∃ g hv kv ks, e = .returned (.pointer (some ⟨g, 0, none⟩)) ∧ Made A n w w' f g hv kv ks := by
  rcases h with ⟨rfl, h⟩ | ⟨g, hv, kv, ks, hp, hA, c0, c1, c2, hh, hks, hs, hch, hno⟩
  · refine (fresh_nil w).mono ?_
    rintro e w' ⟨rfl, rfl⟩
    refine ⟨w.heap.size, .slice none 0 0, .slice none 0 0, [], rfl, (Below.refl _ _).alloc (Nat.le_refl _) _, ?_, World.ownsRow_nil _ _ _ _, by simp [Value.ownBlock], by rw [h]; exact hist_nil A w, List.Pairwise.nil, fun c q hq => absurd hq List.not_mem_nil, fun c _ k => h _⟩
    rw [h]; exact owns_lit3 w _ _ _ _ (Nat.le_refl _)
  · cases hp
    have hh2 := hh
    have hks2 := hks
    obtain ⟨ha, hc, rfl, -⟩ := hh2
    obtain ⟨ka, kc, rfl, -⟩ := hks2
    refine (fresh_some A g _ ha _ hc ka _ kc ks w c0 c1 c2 hks (kids_le ks hs)).mono ?_
    rintro e w' ⟨w1, va, vl, vc, rfl, hown, hb, rfl⟩
    refine ⟨w1.heap.size, _, _, ks, rfl, hb.alloc hb.size _, owns_lit3 w1 _ _ _ _ hb.size, hown.alloc _, ?_, hh, hs, hch, hno⟩
    intro e
    have := (hown.lt _ e).2
    omega

def orP (full : Bool) (kl g : Nat) : Option Addr := if full = false ∧ kl = 0 then none else some ⟨g, 0, none⟩

set_option maxHeartbeats 1000000 in
theorem orNil_any (g : Nat) (full : Bool) (ka : Option Addr) (kl kc : Nat) (w : World) (hkl : kl ≤ 1000)
    (c0 : w.cell? ⟨g, 0, none⟩ = some (.bool full)) (c2 : w.cell? ⟨g, 2, none⟩ = some (.slice ka kl kc)) :
    Calls Tryz.prog 115 #[.pointer (some ⟨g, 0, none⟩)] w fun e w' => e = .returned (.pointer (orP full kl g)) ∧ w' = w := by
  cases full with
  | true =>
    go_enter Tryz.func115, Tryz.ntmps115
    go_wp2
    go_ret
    exact ⟨by simp [orP], rfl⟩
  | false =>
    by_cases h0 : kl = 0
    · subst h0
      go_enter Tryz.func115, Tryz.ntmps115
      go_wp2
      go_ret
      exact ⟨by simp [orP], rfl⟩
    · have h0' : ((kl : Int) == 0) = false := by simp; omega
      go_enter Tryz.func115, Tryz.ntmps115
      go_wp2
      go_ret
      exact ⟨by simp [orP, h0], rfl⟩

end Go.Proofs.YtnapepbdohidgaaGreatDoor
