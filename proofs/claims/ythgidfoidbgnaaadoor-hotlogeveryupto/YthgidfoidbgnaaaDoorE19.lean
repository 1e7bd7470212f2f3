/- Regions that draw their order and end in one operation that waits for all looks: what the looks read is held until that operation. -/
import Derived.Test.YthgidfoidbgnaaaDoorE17
namespace Go.Proofs.YthgidfoidbgnaaaDoor
open Go.RowKit
section
variable {P : Program} {ops : Array Oper} {Q : Exit → Act → World → Prop} {md : Region.Mode} {S : World → Prop} {z : Nat}

/-- whatever order is picked from here on; S holds behind every operation, as long as the last one has not come up -/
def wpAnyU (P : Program) (md : Region.Mode) (ops : Array Oper) (Q : Exit → Act → World → Prop) (S : World → Prop) (z : Nat) : Nat → Array Bool → Act → World → Prop
 | 0, listed, a, w => Region.ready md ops listed = [] ∧ Q .normal a w
 | fuel + 1, listed, a, w =>
  (Region.ready md ops listed = [] → Q .normal a w) ∧
  ∀ i ∈ Region.ready md ops listed, wpOp P ops Q i (fun a' w' => ((listed.setIfInBounds i true).getD z true = false → S w') ∧ wpAnyU P md ops Q S z fuel (listed.setIfInBounds i true) a' w') a w
theorem wpAny_of_until : ∀ (fuel : Nat) (listed : Array Bool) (a : Act) (w : World), wpAnyU P md ops Q S z fuel listed a w → wpAny P md ops Q fuel listed a w
 | 0, _, _, _, h => h
 | fuel + 1, _, _, _, h => ⟨h.1, fun i hi => wpOp_mono (fun a' w' h' => wpAny_of_until fuel _ a' w' h'.2) (h.2 i hi)⟩

theorem wp_region_until {id : Nat} {a : Act} {w : World} (z : Nat) (hm : P.follows .mixedOrders = true)
  (h : wpAnyU P .any ops Q S z ops.size (Array.replicate ops.size false) a { w with drawn := w.drawn + 1 }) : (Code.region id ops true).wp P Q a w :=
 wp_region_any hm (wpAny_of_until _ _ _ _ h)
theorem wpAnyU_done {listed : Array Bool} {a : Act} {w : World} (hr : Region.ready md ops listed = []) (h : Q .normal a w) :
  ∀ fuel, wpAnyU P md ops Q S z fuel listed a w
 | 0 => ⟨hr, h⟩
 | _ + 1 => ⟨fun _ => h, by rw [hr]; simp⟩
/-- the last waits for i -/
def waitsB (md : Region.Mode) (ops : Array Oper) (z i : Nat) : Bool := i != z && match ops[z]? with
 | some o => o.after.any fun e => Region.binds md e && e.on == i
 | none => false
end
/-- one waits for the next, none has come up -/
def chainB (md : Region.Mode) (ops : Array Oper) (listed : Array Bool) : List Nat → Bool
 | [] => true
 | [a] => !(listed.getD a true)
 | a :: b :: r => !(listed.getD a true) && (waitsB md ops b a && chainB md ops listed (b :: r))
section
variable {P : Program} {ops : Array Oper} {Q : Exit → Act → World → Prop} {md : Region.Mode} {S : World → Prop} {z : Nat}
theorem chain_head {listed : Array Bool} {a : Nat} {r : List Nat} (h : chainB md ops listed (a :: r) = true) : listed.getD a true = false := by
 cases r with
 | nil => simpa [chainB] using h
 | cons b r =>
  unfold chainB at h
  simp only [Bool.and_eq_true, Bool.not_eq_true'] at h
  exact h.1
theorem waits_not {listed : Array Bool} {a b : Nat} (hw : waitsB md ops b a = true) (ha : listed.getD a true = false) : b ∉ Region.ready md ops listed := by
 intro hb
 obtain ⟨_, ob, hob, hall⟩ := mem_ready.1 hb
 unfold waitsB at hw
 rw [Bool.and_eq_true, hob] at hw
 obtain ⟨_, h2⟩ := hw
 simp only [Array.any_eq_true] at h2
 obtain ⟨n, hn, hb'⟩ := h2
 simp only [Bool.and_eq_true, beq_iff_eq] at hb'
 have h1 := hall _ (Array.getElem_mem hn) hb'.1
 rw [hb'.2] at h1
 rcases Nat.lt_or_ge a listed.size with h' | h'
 ·simp [h'] at ha h1; rw [ha] at h1; cases h1
 ·simp [Array.getElem?_eq_none h'] at h1
theorem chain_not {listed : Array Bool} : ∀ (r : List Nat) (a j : Nat), chainB md ops listed (a :: r) = true → j ∈ Region.ready md ops listed → j ∉ r := by
 intro r
 induction r with
 | nil => intro a j _ _ h; cases h
 | cons b r ih =>
  intro a j h hj hm
  have ha := chain_head h
  unfold chainB at h
  simp only [Bool.and_eq_true] at h
  rcases List.mem_cons.1 hm with e | e
  ·subst e; exact waits_not h.2.1 ha hj
  ·exact ih b j h.2.2 hj e
theorem chain_set {listed : Array Bool} (j : Nat) : ∀ (l : List Nat), chainB md ops listed l = true → j ∉ l → chainB md ops (listed.setIfInBounds j true) l = true := by
 intro l
 induction l with
 | nil => intro _ _; rfl
 | cons a r ih =>
  intro h hj
  have hja : j ≠ a := fun e => hj (by rw [e]; simp)
  have ha := chain_head h
  have ha' : (listed.setIfInBounds j true).getD a true = false := by rw [getD_set_ne true hja]; exact ha
  cases r with
  | nil => simp only [chainB, ha', Bool.not_false]
  | cons b r =>
   unfold chainB at h ⊢
   simp only [Bool.and_eq_true] at h ⊢
   exact ⟨by rw [ha']; rfl, h.2.1, ih h.2.2 (fun e => hj (by simp [e]))⟩
theorem chain_mem {listed : Array Bool} : ∀ (l : List Nat) (j : Nat), chainB md ops listed l = true → j ∈ l → listed.getD j true = false := by
 intro l
 induction l with
 | nil => intro j _ h; cases h
 | cons a r ih =>
  intro j h hj
  rcases List.mem_cons.1 hj with e | e
  ·rw [e]; exact chain_head h
  ·cases r with
   | nil => cases e
   | cons b r =>
    unfold chainB at h
    simp only [Bool.and_eq_true] at h
    exact ih j h.2.2 e
theorem wpAnyU_chain {i : Nat} {oi : Oper} {v : Value} (l : List Nat) (hzm : z ∈ l) (hil : i ∉ l) (hi : ops[i]? = some oi) (hsel : ∀ (j : Nat) (o : Oper) cs b, ops[j]? = some o → o.op ≠ .select cs b)
  (hQ : ∀ c a w, Q (.panic c) (a.put oi.dst v) w → Q (.panic c) a w) :
  ∀ (fuel : Nat) (listed : Array Bool) (a : Act) (w : World),
   (∀ j oj, ops[j]? = some oj → j ≠ i → listed.getD j true = false → (∀ e ∈ oj.after, Region.binds md e = true → e.on ≠ i) → oi.apart ops oj = true) →
   i ∈ Region.ready md ops listed → chainB md ops listed (i :: l) = true → YieldsIf P ops S oi v a → S w →
   wpAnyU P md ops Q S z fuel (listed.setIfInBounds i true) (a.put oi.dst v) w → wpAnyU P md ops Q S z (fuel + 1) listed a w := by
 intro fuel
 induction fuel with
 | zero =>
  intro listed a w _ hr hzl hy hS H
  refine ⟨fun h => (by rw [h] at hr; cases hr), fun j hj => ?_⟩
  by_cases hji : j = i
  ·subst hji; exact hy.wpOp hi hS ⟨fun _ => hS, H⟩
  ·have := ready_mono hj hji
   rw [H.1] at this
   cases this
 | succ fuel ih =>
  intro listed a w hfree hr hcl hy hS H
  have hiz : i ≠ z := fun e => hil (by rw [e]; exact hzm)
  have hzl : listed.getD z true = false := chain_mem _ z hcl (by simp [hzm])
  refine ⟨fun h => (by rw [h] at hr; cases hr), fun j hj => ?_⟩
  by_cases hji : j = i
  ·subst hji; exact hy.wpOp hi hS ⟨fun _ => hS, H⟩
  ·have h1 := H.2 j (ready_mono hj hji)
   obtain ⟨hjun, oj, hoj, hall⟩ := mem_ready.1 hj
   have hnot : ∀ e ∈ oj.after, Region.binds md e = true → e.on ≠ i := fun e he hb heq => by
    have h1 := hall e he hb
    have h0 := (mem_ready.1 hr).1
    rw [heq] at h1
    rcases Nat.lt_or_ge i listed.size with h' | h'
    ·simp [h'] at h0 h1; rw [h0] at h1; cases h1
    ·simp [Array.getElem?_eq_none h'] at h1
   have hjl : j ∉ l := chain_not l i j hcl hj
   have hjz : j ≠ z := fun e => hjl (by rw [e]; exact hzm)
   have hlij : ((listed.setIfInBounds i true).setIfInBounds j true).getD z true = false := by rw [getD_set_ne true hjz, getD_set_ne true hiz]; exact hzl
   have h2 := wpOp_putIf hoj (hfree j oj hoj hji hjun hnot) (fun cs b => hsel i oi cs b hi) (fun cs b => hsel j oj cs b hoj) hQ hy h1
   have hfree' : ∀ k ok, ops[k]? = some ok → k ≠ i → (listed.setIfInBounds j true).getD k true = false →
     (∀ e ∈ ok.after, Region.binds md e = true → e.on ≠ i) → oi.apart ops ok = true := fun k ok hk hki hun hno => by
    refine hfree k ok hk hki ?_ hno
    by_cases hjk : j = k
    ·subst hjk; exact hjun
    ·rw [getD_set_ne true hjk] at hun; exact hun
   refine wpOp_mono (fun a' w' h3 => ?_) h2
   have hSw := h3.2.1 hlij
   refine ⟨fun _ => hSw, ih (listed.setIfInBounds j true) a' w' hfree' (ready_mono hr (Ne.symm hji)) (chain_set j _ hcl (fun e => by rcases List.mem_cons.1 e with e | e; exact hji e; exact hjl e)) h3.1 hSw ?_⟩
   rw [Array.setIfInBounds_comm _ _ hji]
   exact h3.2.2
end
section
variable {ops : Array Oper} {Q : Exit → Act → World → Prop} {a : Act} {w : World} {listed : Array Bool} {fuel : Nat} {S : World → Prop} {z : Nat}
theorem takeV {i : Nat} (l : List Nat) (d : Option Tmp) {oi : Oper} {v : Value} (hi : ops[i]? = some oi) (hd : oi.dst = d)
  (hs : Region.noSelect ops = true) (hf : Region.free .any ops listed i = true) (hr : (Region.ready .any ops listed).contains i = true) (hz : (chainB .any ops listed (i :: l) && (l.contains z && !l.contains i)) = true)
  (hQ : ∀ c a w, Q (.panic c) (a.put d v) w → Q (.panic c) a w) (hy : YieldsIf Tryd.prog ops S oi v a) (hS : S w)
  (h : wpAnyU Tryd.prog .any ops Q S z fuel (listed.setIfInBounds i true) (a.put d v) w) : wpAnyU Tryd.prog .any ops Q S z (fuel + 1) listed a w := by
 subst hd
 simp only [Bool.and_eq_true, Bool.not_eq_true'] at hz
 exact wpAnyU_chain l (by simpa using hz.2.1) (by simpa using hz.2.2) hi (Region.noSelect_spec hs) hQ fuel listed a w (Region.free_spec hi hf) (by simpa using hr) hz.1 hy hS h
/-- shorter: the conditions and the last one by themselves -/
theorem tV (i : Nat) (l : List Nat) (s : Nat) {oi : Oper} {v : Value} (hi : ops[i]? = some oi) (hd : oi.dst = some s)
    (hy : YieldsIf Tryd.prog ops S oi v a) (hS : S w)
    (h : wpAnyU Tryd.prog .any ops Q S z fuel (listed.setIfInBounds i true) (a.put (some s) v) w)
    (hk : (Region.noSelect ops && Region.free .any ops listed i && (Region.ready .any ops listed).contains i && (chainB .any ops listed (i :: l) && (l.contains z && !l.contains i))) = true := by kernel_rfl)
    (hQ : ∀ c a w, Q (.panic c) (a.put (some s) v) w → Q (.panic c) a w := by exact fun _ _ _ h => h) : wpAnyU Tryd.prog .any ops Q S z (fuel + 1) listed a w :=
  takeV l (some s) hi hd ((Bool.and_eq_true_iff.1 (Bool.and_eq_true_iff.1 (Bool.and_eq_true_iff.1 hk).1).1).1) ((Bool.and_eq_true_iff.1 (Bool.and_eq_true_iff.1 (Bool.and_eq_true_iff.1 hk).1).1).2) ((Bool.and_eq_true_iff.1 (Bool.and_eq_true_iff.1 hk).1).2) (Bool.and_eq_true_iff.1 hk).2 hQ hy hS h
end
section
variable {ops : Array Oper} {Q : Exit → Act → World → Prop} {a : Act} {w : World} {listed : Array Bool} {fuel : Nat} {S : World → Prop} {z : Nat}
theorem oneU {i : Nat} (hr : Region.ready .any ops listed = [i]) (h : wpOp Tryd.prog ops Q i (fun a' w' => ((listed.setIfInBounds i true).getD z true = false → S w') ∧ wpAnyU Tryd.prog .any ops Q S z fuel (listed.setIfInBounds i true) a' w') a w) : wpAnyU Tryd.prog .any ops Q S z (fuel + 1) listed a w :=
 ⟨fun h0 => (by rw [hr] at h0; cases h0), fun j hj => (by rw [hr] at hj; obtain rfl := List.mem_singleton.1 hj; exact h)⟩
end
end Go.Proofs.YthgidfoidbgnaaaDoor
