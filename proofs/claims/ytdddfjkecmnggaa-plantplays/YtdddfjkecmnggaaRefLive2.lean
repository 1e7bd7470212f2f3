/- The document's own plant: Boot of a live one; the plant's own clone. -/
import Derived.Test.YtdddfjkecmnggaaRefBoot
import Derived.Test.YtdddfjkecmnggaaRefLive
namespace Go.Proofs.Ytdddfjkecmnggaa
open Go.RowKit Go.Maps

theorem LiveR.boot {w : World} {c : Nat → Colour} {t g : Nat} {m : Pl} (h : LiveR w c t g m) (ht0 : t ≠ 0) (ht1 : t ≠ 1) (hst : m.steps < 1099511627775) (kv : Value) (ks : List Int) (hk : KeepIn w c t kv ks) : Calls Try.prog 26 #[ptr g, kv] w fun e w' => e = .returned noResult ∧ NextR w c t g (m.boot ks) w' := by
  have hwf := h.2.1
  obtain ⟨vd, vt, hv, wv, ds, ts, c0, hA, hfr, hlt, hnext⟩ := h.opened ht0
  have hk0 : KeepIn w c0 t kv ks := by
    obtain ⟨p, cap, e, h1, h2, h3⟩ := hk
    refine ⟨p, cap, e, h1, h2, ?_⟩
    rcases h3 with h3 | ⟨b, off, e2, h4, h5, h6⟩
    · exact Or.inl h3
    · exact Or.inr ⟨b, off, e2, by rw [hlt b h5]; exact h4, h5, h6⟩
  exact (refBoot_at hA hwf ht0 ht1 hfr hst kv ks hk0).mono fun e w' ⟨he, wv', hn⟩ => ⟨he, hnext _ _ _ _ hn (Pl.boot_wf hwf ks)⟩
end Go.Proofs.Ytdddfjkecmnggaa
