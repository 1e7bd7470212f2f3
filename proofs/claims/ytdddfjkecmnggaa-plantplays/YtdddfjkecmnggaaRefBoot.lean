/- The document's own plant: Boot. -/
import Derived.Test.YtdddfjkecmnggaaRefBootN
import Derived.Test.YtdddfjkecmnggaaRefBootS
namespace Go.Proofs.Ytdddfjkecmnggaa
open Go.RowKit Go.Maps
theorem refBoot_at {w : World} {c : Nat → Colour} {t g : Nat} {vd vt hv wv : Value} {ds ts : List Int} {m : Pl} (h : RefAt w c t g vd vt hv wv ds ts m) (hwf : m.WF) (ht0 : t ≠ 0) (ht1 : t ≠ 1) (hfr : ∀ b, w.heap.size ≤ b → (c b).1 = t + 1) (hst : m.steps < 1099511627775) (kv : Value) (ks : List Int) (hk : KeepIn w c t kv ks) :
    Calls Try.prog 26 #[ptr g, kv] w fun e w' => e = .returned noResult ∧ ∃ wv', NextA w c t g vd vt hv wv' ds ts (m.boot ks) w' := by
  by_cases hks0 : ks = []
  · exact refBoot_nil h hwf ht0 ht1 hfr hst kv ks hk hks0
  · exact refBoot_some h hwf ht0 ht1 hfr hst kv ks hk hks0
end Go.Proofs.Ytdddfjkecmnggaa
