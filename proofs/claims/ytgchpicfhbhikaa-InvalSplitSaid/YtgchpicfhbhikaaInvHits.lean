/-
  The contracts of package inval's Hits, HitsStep and Covers. No condition.
-/
import Derived.Test.YtgchpicfhbhikaaInvHit
namespace Go.Proofs.Ytgchpicfhbhikaa
open Go Go.RowKit

def hitsB (k a : Int) (X : Nat) (b : Int) (p L : Nat) : Bool := decide (MayP k a X ∧ (k = 0 ∨ a = b ∧ (k = 1 ∨ X / 2 ^ L = p)))
section
variable {k a : Int} {X : Nat} {b : Int} {p L : Nat}
theorem hb_page (m : MayP 2 a X) : (b == a && begB X L p) = hitsB 2 a X b p L := by
  unfold hitsB begB
  rw [Bool.eq_iff_iff, Bool.and_eq_true, beq_iff_eq, decide_eq_true_eq, decide_eq_true_eq]
  exact ⟨fun h => ⟨m, .inr ⟨h.1.symm, .inr h.2⟩⟩, fun h => by
    rcases h.2 with g | ⟨g, g' | g'⟩
    · cases g
    · cases g'
    · exact ⟨g.symm, g'⟩⟩
theorem hb_asid (m : MayP 1 a X) : (b == a) = hitsB 1 a X b p L := by
  unfold hitsB
  rw [Bool.eq_iff_iff, beq_iff_eq, decide_eq_true_eq]
  exact ⟨fun h => ⟨m, .inr ⟨h.symm, .inl rfl⟩⟩, fun h => by
    rcases h.2 with g | ⟨g, _⟩
    · cases g
    · exact g.symm⟩
theorem hb_all (m : MayP 0 a X) : true = hitsB 0 a X b p L := (decide_eq_true ⟨m, .inl rfl⟩).symm
theorem hb_no (m : ¬ MayP k a X) : false = hitsB k a X b p L := (decide_eq_false fun h => m h.1).symm
end

set_option maxHeartbeats 2000000 in
theorem hits_page (a : Int) (X : Nat) (b : Int) (p : Nat) (f : Int) (r : Bool) (w : World) (m : MayP 2 a X) :
    Calls Try.prog 11 #[.agg #[.int .i8 2, .int .i64 a, .int .u64 X], .agg #[.int .i64 b, .int .u64 p, .int .i64 f, .bool r]] w fun e w' => e = .returned (.bool (hitsB 2 a X b p 0)) ∧ Kp w w' := by
  have HV := Lib.hid (hit_page m rfl)
  have HR := Lib.hid (hb_page (b := b) (p := p) (L := 0) m)
  have HS := Lib.hid (h2_new (v0 := .int .i64 b) (v1 := .int .u64 p) (v2 := .int .i64 f) w 2 a X #[.int .i64 b, .int .u64 p, .int .i64 f, .bool r] 27 rfl rfl rfl)
  clear m
  rw [← HR.out]
  go_enter Try.func11, Try.ntmps11
  go_wp2
  go_region_held3 (fun w' => w'.cell? ⟨w.heap.size, 0, none⟩ = some (.int .i8 2) ∧ w'.cell? ⟨w.heap.size, 1, none⟩ = some (.int .i64 a) ∧ w'.cell? ⟨w.heap.size, 2, none⟩ = some (.int .u64 X) ∧ w'.cell? ⟨w.heap.size + 1, 0, none⟩ = some (.int .i64 b) ∧ w'.cell? ⟨w.heap.size + 1, 1, none⟩ = some (.int .u64 p) ∧ w'.cell? ⟨w.heap.size + 1, 2, none⟩ = some (.int .i64 f) ∧ w.heap.size + 1 < w'.heap.size ∧ Kp w w')
    (first | exact HS.out.drew | assumption | exact H2.drew (by assumption))
    (first | (go_at_call 21; rename_i hh _ _; refine (hitter_any _ _ _ _).mono ?_; rintro e w' ⟨rfl, hg⟩; rw [HV.out]; have hh' := H2.kp hh hg; (try (have hb' := BegAt.kp (by assumption) hg)); clear hh hg) | (go_at_call 22; rename_i hh _ _; refine (begins_any _ 3 0 _ (by decide) (by decide) (by decide)).mono ?_; rintro e w' ⟨⟨A, B, rfl, hb⟩, hg⟩; have hh' := H2.kp hh hg; clear hh hg) | (go_at_call 27; rename_i hh _ _; refine (ofPage_any _ _ _ _ _ 0 _ _ (by decide) (by assumption)).mono ?_; rintro e w' ⟨rfl, hg⟩; have hh' := H2.kp hh hg; clear hh hg))
  all_goals
    rename_i hh
    have HH := Lib.hid hh; clear hh
    go_wp2_with fail
    go_ret
    exact ⟨rfl, HH.out.2.2.2.2.2.2.2⟩

set_option maxHeartbeats 2000000 in
theorem hits_asid (a : Int) (X : Nat) (b : Int) (p : Nat) (f : Int) (r : Bool) (w : World) (m : MayP 1 a X) :
    Calls Try.prog 11 #[.agg #[.int .i8 1, .int .i64 a, .int .u64 X], .agg #[.int .i64 b, .int .u64 p, .int .i64 f, .bool r]] w fun e w' => e = .returned (.bool (hitsB 1 a X b p 0)) ∧ Kp w w' := by
  have HV := Lib.hid (hit_asid m rfl)
  have HR := Lib.hid (hb_asid (b := b) (p := p) (L := 0) m)
  have HS := Lib.hid (h2_new (v0 := .int .i64 b) (v1 := .int .u64 p) (v2 := .int .i64 f) w 1 a X #[.int .i64 b, .int .u64 p, .int .i64 f, .bool r] 27 rfl rfl rfl)
  clear m
  rw [← HR.out]
  go_enter Try.func11, Try.ntmps11
  go_wp2
  go_region_held3 (fun w' => w'.cell? ⟨w.heap.size, 0, none⟩ = some (.int .i8 1) ∧ w'.cell? ⟨w.heap.size, 1, none⟩ = some (.int .i64 a) ∧ w'.cell? ⟨w.heap.size, 2, none⟩ = some (.int .u64 X) ∧ w'.cell? ⟨w.heap.size + 1, 0, none⟩ = some (.int .i64 b) ∧ w'.cell? ⟨w.heap.size + 1, 1, none⟩ = some (.int .u64 p) ∧ w'.cell? ⟨w.heap.size + 1, 2, none⟩ = some (.int .i64 f) ∧ w.heap.size + 1 < w'.heap.size ∧ Kp w w')
    (first | exact HS.out.drew | assumption | exact H2.drew (by assumption))
    (first | (go_at_call 21; rename_i hh _ _; refine (hitter_any _ _ _ _).mono ?_; rintro e w' ⟨rfl, hg⟩; rw [HV.out]; have hh' := H2.kp hh hg; (try (have hb' := BegAt.kp (by assumption) hg)); clear hh hg) | (go_at_call 22; rename_i hh _ _; refine (begins_any _ 3 0 _ (by decide) (by decide) (by decide)).mono ?_; rintro e w' ⟨⟨A, B, rfl, hb⟩, hg⟩; have hh' := H2.kp hh hg; clear hh hg) | (go_at_call 26; rename_i hh _ _; refine (ofAsid_any _ _ _ _ _ _).mono ?_; rintro e w' ⟨rfl, hg⟩; have hh' := H2.kp hh hg; clear hh hg))
  all_goals
    rename_i hh
    have HH := Lib.hid hh; clear hh
    go_wp2_with fail
    go_ret
    exact ⟨rfl, HH.out.2.2.2.2.2.2.2⟩

set_option maxHeartbeats 2000000 in
theorem hits_all (a : Int) (X : Nat) (b : Int) (p : Nat) (f : Int) (r : Bool) (w : World) (m : MayP 0 a X) :
    Calls Try.prog 11 #[.agg #[.int .i8 0, .int .i64 a, .int .u64 X], .agg #[.int .i64 b, .int .u64 p, .int .i64 f, .bool r]] w fun e w' => e = .returned (.bool (hitsB 0 a X b p 0)) ∧ Kp w w' := by
  have HV := Lib.hid (hit_all m rfl)
  have HR := Lib.hid (hb_all (b := b) (p := p) (L := 0) m)
  have HS := Lib.hid (h2_new (v0 := .int .i64 b) (v1 := .int .u64 p) (v2 := .int .i64 f) w 0 a X #[.int .i64 b, .int .u64 p, .int .i64 f, .bool r] 27 rfl rfl rfl)
  clear m
  rw [← HR.out]
  go_enter Try.func11, Try.ntmps11
  go_wp2
  go_region_held3 (fun w' => w'.cell? ⟨w.heap.size, 0, none⟩ = some (.int .i8 0) ∧ w'.cell? ⟨w.heap.size, 1, none⟩ = some (.int .i64 a) ∧ w'.cell? ⟨w.heap.size, 2, none⟩ = some (.int .u64 X) ∧ w'.cell? ⟨w.heap.size + 1, 0, none⟩ = some (.int .i64 b) ∧ w'.cell? ⟨w.heap.size + 1, 1, none⟩ = some (.int .u64 p) ∧ w'.cell? ⟨w.heap.size + 1, 2, none⟩ = some (.int .i64 f) ∧ w.heap.size + 1 < w'.heap.size ∧ Kp w w')
    (first | exact HS.out.drew | assumption | exact H2.drew (by assumption))
    (first | (go_at_call 21; rename_i hh _ _; refine (hitter_any _ _ _ _).mono ?_; rintro e w' ⟨rfl, hg⟩; rw [HV.out]; have hh' := H2.kp hh hg; (try (have hb' := BegAt.kp (by assumption) hg)); clear hh hg) | (go_at_call 22; rename_i hh _ _; refine (begins_any _ 3 0 _ (by decide) (by decide) (by decide)).mono ?_; rintro e w' ⟨⟨A, B, rfl, hb⟩, hg⟩; have hh' := H2.kp hh hg; clear hh hg) | (go_at_call 25; rename_i hh _ _; refine (each_any _ _ _).mono ?_; rintro e w' ⟨rfl, hg⟩; have hh' := H2.kp hh hg; clear hh hg))
  all_goals
    rename_i hh
    have HH := Lib.hid hh; clear hh
    go_wp2_with fail
    go_ret
    exact ⟨rfl, HH.out.2.2.2.2.2.2.2⟩

set_option maxHeartbeats 2000000 in
theorem hits_no (k a : Int) (X : Nat) (b : Int) (p : Nat) (f : Int) (r : Bool) (w : World) (m : ¬ MayP k a X) :
    Calls Try.prog 11 #[.agg #[.int .i8 k, .int .i64 a, .int .u64 X], .agg #[.int .i64 b, .int .u64 p, .int .i64 f, .bool r]] w fun e w' => e = .returned (.bool (hitsB k a X b p 0)) ∧ Kp w w' := by
  have HV := Lib.hid (hit_no m)
  have HR := Lib.hid (hb_no (b := b) (p := p) (L := 0) m)
  have HS := Lib.hid (h2_new (v0 := .int .i64 b) (v1 := .int .u64 p) (v2 := .int .i64 f) w k a X #[.int .i64 b, .int .u64 p, .int .i64 f, .bool r] 27 rfl rfl rfl)
  clear m
  rw [← HR.out]
  go_enter Try.func11, Try.ntmps11
  go_wp2
  go_region_held3 (fun w' => w'.cell? ⟨w.heap.size, 0, none⟩ = some (.int .i8 k) ∧ w'.cell? ⟨w.heap.size, 1, none⟩ = some (.int .i64 a) ∧ w'.cell? ⟨w.heap.size, 2, none⟩ = some (.int .u64 X) ∧ w'.cell? ⟨w.heap.size + 1, 0, none⟩ = some (.int .i64 b) ∧ w'.cell? ⟨w.heap.size + 1, 1, none⟩ = some (.int .u64 p) ∧ w'.cell? ⟨w.heap.size + 1, 2, none⟩ = some (.int .i64 f) ∧ w.heap.size + 1 < w'.heap.size ∧ Kp w w')
    (first | exact HS.out.drew | assumption | exact H2.drew (by assumption))
    (first | (go_at_call 21; rename_i hh _ _; refine (hitter_any _ _ _ _).mono ?_; rintro e w' ⟨rfl, hg⟩; rw [HV.out]; have hh' := H2.kp hh hg; (try (have hb' := BegAt.kp (by assumption) hg)); clear hh hg) | (go_at_call 22; rename_i hh _ _; refine (begins_any _ 3 0 _ (by decide) (by decide) (by decide)).mono ?_; rintro e w' ⟨⟨A, B, rfl, hb⟩, hg⟩; have hh' := H2.kp hh hg; clear hh hg) | (go_at_call 24; rename_i hh _ _; refine (nothing_any _ _ _).mono ?_; rintro e w' ⟨rfl, hg⟩; have hh' := H2.kp hh hg; clear hh hg))
  all_goals
    rename_i hh
    have HH := Lib.hid hh; clear hh
    go_wp2_with fail
    go_ret
    exact ⟨rfl, HH.out.2.2.2.2.2.2.2⟩

theorem hits_any (k a : Int) (X : Nat) (b : Int) (p : Nat) (f : Int) (r : Bool) (w : World) :
    Calls Try.prog 11 #[.agg #[.int .i8 k, .int .i64 a, .int .u64 X], .agg #[.int .i64 b, .int .u64 p, .int .i64 f, .bool r]] w fun e w' => e = .returned (.bool (hitsB k a X b p 0)) ∧ Kp w w' := by
  by_cases m : MayP k a X
  · by_cases k0 : k = 0
    · subst k0; exact hits_all a X b p f r w m
    · by_cases k1 : k = 1
      · subst k1; exact hits_asid a X b p f r w m
      · have k2 : k = 2 := by unfold MayP at m; omega
        subst k2; exact hits_page a X b p f r w m
  · exact hits_no k a X b p f r w m


/-! HitsStep -/
def lowN (l : Int) : Nat := (9 * (3 - l)).toNat
def stepB (k a : Int) (X : Nat) (b l : Int) (p : Nat) : Bool := if 1 ≤ l ∧ l ≤ 3 then hitsB k a X b p (lowN l) else decide (MayP k a X ∧ k = 0)

set_option maxHeartbeats 2000000 in
theorem step_page (a : Int) (X : Nat) (b l : Int) (p : Nat) (f : Int) (w : World) (m : MayP 2 a X) (h1 : 1 ≤ l) (h3 : l ≤ 3) :
    Calls Try.prog 13 #[.agg #[.int .i8 2, .int .i64 a, .int .u64 X], .agg #[.int .i64 b, .int .i8 l, .int .u64 p, .int .i64 f]] w fun e w' => e = .returned (.bool (hitsB 2 a X b p (lowN l))) ∧ Kp w w' := by
  have HV := Lib.hid (hit_page m rfl)
  have HR := Lib.hid (hb_page (b := b) (p := p) (L := lowN l) m)
  have HN : Hid ((lowN l : Int) = 9 * (3 - l)) := Lib.hid (by unfold lowN; omega)
  have HE : Hid (lowN l ≤ 18) := Lib.hid (by unfold lowN; omega)
  have HS := Lib.hid (h2_new (v0 := .int .i64 b) (v1 := .int .i8 l) (v2 := .int .u64 p) w 2 a X #[.int .i64 b, .int .i8 l, .int .u64 p, .int .i64 f] 29 rfl rfl rfl)
  clear m
  rw [← HR.out]
  generalize lowN l = L at HN HE HR ⊢
  go_enter Try.func13, Try.ntmps13
  go_wp2
  have H1 := Lib.hid h1
  have H3 := Lib.hid h3
  clear h1 h3
  go_region_held3 (fun w' => w'.cell? ⟨w.heap.size, 0, none⟩ = some (.int .i8 2) ∧ w'.cell? ⟨w.heap.size, 1, none⟩ = some (.int .i64 a) ∧ w'.cell? ⟨w.heap.size, 2, none⟩ = some (.int .u64 X) ∧ w'.cell? ⟨w.heap.size + 1, 0, none⟩ = some (.int .i64 b) ∧ w'.cell? ⟨w.heap.size + 1, 1, none⟩ = some (.int .i8 l) ∧ w'.cell? ⟨w.heap.size + 1, 2, none⟩ = some (.int .u64 p) ∧ w.heap.size + 1 < w'.heap.size ∧ Kp w w')
    (first | exact HS.out.drew | assumption | exact H2.drew (by assumption))
    (first | (go_at_call 21; rename_i hh _ _; refine (hitter_any _ _ _ _).mono ?_; rintro e w' ⟨rfl, hg⟩; rw [HV.out]; have hh' := H2.kp hh hg; (try (have hb' := BegAt.kp (by assumption) hg)); clear hh hg) | (go_at_call 22; rename_i hh _ _; refine (begins_any _ _ L _ H1.out H3.out HN.out).mono ?_; rintro e w' ⟨⟨A, B, rfl, hb⟩, hg⟩; have hh' := H2.kp hh hg; clear hh hg) | (go_at_call 27; rename_i hh _ _; refine (ofPage_any _ _ _ _ _ L _ _ HE.out (by assumption)).mono ?_; rintro e w' ⟨rfl, hg⟩; have hh' := H2.kp hh hg; clear hh hg))
  all_goals
    rename_i hh
    have HH := Lib.hid hh; clear hh
    go_wp2_with fail
    go_ret
    exact ⟨rfl, HH.out.2.2.2.2.2.2.2⟩

set_option maxHeartbeats 2000000 in
theorem step_asid (a : Int) (X : Nat) (b l : Int) (p : Nat) (f : Int) (w : World) (m : MayP 1 a X) (h1 : 1 ≤ l) (h3 : l ≤ 3) :
    Calls Try.prog 13 #[.agg #[.int .i8 1, .int .i64 a, .int .u64 X], .agg #[.int .i64 b, .int .i8 l, .int .u64 p, .int .i64 f]] w fun e w' => e = .returned (.bool (hitsB 1 a X b p (lowN l))) ∧ Kp w w' := by
  have HV := Lib.hid (hit_asid m rfl)
  have HR := Lib.hid (hb_asid (b := b) (p := p) (L := lowN l) m)
  have HN : Hid ((lowN l : Int) = 9 * (3 - l)) := Lib.hid (by unfold lowN; omega)
  have HE : Hid (lowN l ≤ 18) := Lib.hid (by unfold lowN; omega)
  have HS := Lib.hid (h2_new (v0 := .int .i64 b) (v1 := .int .i8 l) (v2 := .int .u64 p) w 1 a X #[.int .i64 b, .int .i8 l, .int .u64 p, .int .i64 f] 29 rfl rfl rfl)
  clear m
  rw [← HR.out]
  generalize lowN l = L at HN HE HR ⊢
  go_enter Try.func13, Try.ntmps13
  go_wp2
  have H1 := Lib.hid h1
  have H3 := Lib.hid h3
  clear h1 h3
  go_region_held3 (fun w' => w'.cell? ⟨w.heap.size, 0, none⟩ = some (.int .i8 1) ∧ w'.cell? ⟨w.heap.size, 1, none⟩ = some (.int .i64 a) ∧ w'.cell? ⟨w.heap.size, 2, none⟩ = some (.int .u64 X) ∧ w'.cell? ⟨w.heap.size + 1, 0, none⟩ = some (.int .i64 b) ∧ w'.cell? ⟨w.heap.size + 1, 1, none⟩ = some (.int .i8 l) ∧ w'.cell? ⟨w.heap.size + 1, 2, none⟩ = some (.int .u64 p) ∧ w.heap.size + 1 < w'.heap.size ∧ Kp w w')
    (first | exact HS.out.drew | assumption | exact H2.drew (by assumption))
    (first | (go_at_call 21; rename_i hh _ _; refine (hitter_any _ _ _ _).mono ?_; rintro e w' ⟨rfl, hg⟩; rw [HV.out]; have hh' := H2.kp hh hg; (try (have hb' := BegAt.kp (by assumption) hg)); clear hh hg) | (go_at_call 22; rename_i hh _ _; refine (begins_any _ _ L _ H1.out H3.out HN.out).mono ?_; rintro e w' ⟨⟨A, B, rfl, hb⟩, hg⟩; have hh' := H2.kp hh hg; clear hh hg) | (go_at_call 26; rename_i hh _ _; refine (ofAsid_any _ _ _ _ _ _).mono ?_; rintro e w' ⟨rfl, hg⟩; have hh' := H2.kp hh hg; clear hh hg))
  all_goals
    rename_i hh
    have HH := Lib.hid hh; clear hh
    go_wp2_with fail
    go_ret
    exact ⟨rfl, HH.out.2.2.2.2.2.2.2⟩

set_option maxHeartbeats 2000000 in
theorem step_all (a : Int) (X : Nat) (b l : Int) (p : Nat) (f : Int) (w : World) (m : MayP 0 a X) (h1 : 1 ≤ l) (h3 : l ≤ 3) :
    Calls Try.prog 13 #[.agg #[.int .i8 0, .int .i64 a, .int .u64 X], .agg #[.int .i64 b, .int .i8 l, .int .u64 p, .int .i64 f]] w fun e w' => e = .returned (.bool (hitsB 0 a X b p (lowN l))) ∧ Kp w w' := by
  have HV := Lib.hid (hit_all m rfl)
  have HR := Lib.hid (hb_all (b := b) (p := p) (L := lowN l) m)
  have HN : Hid ((lowN l : Int) = 9 * (3 - l)) := Lib.hid (by unfold lowN; omega)
  have HE : Hid (lowN l ≤ 18) := Lib.hid (by unfold lowN; omega)
  have HS := Lib.hid (h2_new (v0 := .int .i64 b) (v1 := .int .i8 l) (v2 := .int .u64 p) w 0 a X #[.int .i64 b, .int .i8 l, .int .u64 p, .int .i64 f] 29 rfl rfl rfl)
  clear m
  rw [← HR.out]
  generalize lowN l = L at HN HE HR ⊢
  go_enter Try.func13, Try.ntmps13
  go_wp2
  have H1 := Lib.hid h1
  have H3 := Lib.hid h3
  clear h1 h3
  go_region_held3 (fun w' => w'.cell? ⟨w.heap.size, 0, none⟩ = some (.int .i8 0) ∧ w'.cell? ⟨w.heap.size, 1, none⟩ = some (.int .i64 a) ∧ w'.cell? ⟨w.heap.size, 2, none⟩ = some (.int .u64 X) ∧ w'.cell? ⟨w.heap.size + 1, 0, none⟩ = some (.int .i64 b) ∧ w'.cell? ⟨w.heap.size + 1, 1, none⟩ = some (.int .i8 l) ∧ w'.cell? ⟨w.heap.size + 1, 2, none⟩ = some (.int .u64 p) ∧ w.heap.size + 1 < w'.heap.size ∧ Kp w w')
    (first | exact HS.out.drew | assumption | exact H2.drew (by assumption))
    (first | (go_at_call 21; rename_i hh _ _; refine (hitter_any _ _ _ _).mono ?_; rintro e w' ⟨rfl, hg⟩; rw [HV.out]; have hh' := H2.kp hh hg; (try (have hb' := BegAt.kp (by assumption) hg)); clear hh hg) | (go_at_call 22; rename_i hh _ _; refine (begins_any _ _ L _ H1.out H3.out HN.out).mono ?_; rintro e w' ⟨⟨A, B, rfl, hb⟩, hg⟩; have hh' := H2.kp hh hg; clear hh hg) | (go_at_call 25; rename_i hh _ _; refine (each_any _ _ _).mono ?_; rintro e w' ⟨rfl, hg⟩; have hh' := H2.kp hh hg; clear hh hg))
  all_goals
    rename_i hh
    have HH := Lib.hid hh; clear hh
    go_wp2_with fail
    go_ret
    exact ⟨rfl, HH.out.2.2.2.2.2.2.2⟩

set_option maxHeartbeats 2000000 in
theorem step_no (k a : Int) (X : Nat) (b l : Int) (p : Nat) (f : Int) (w : World) (m : ¬ MayP k a X) (h1 : 1 ≤ l) (h3 : l ≤ 3) :
    Calls Try.prog 13 #[.agg #[.int .i8 k, .int .i64 a, .int .u64 X], .agg #[.int .i64 b, .int .i8 l, .int .u64 p, .int .i64 f]] w fun e w' => e = .returned (.bool (hitsB k a X b p (lowN l))) ∧ Kp w w' := by
  have HV := Lib.hid (hit_no m)
  have HR := Lib.hid (hb_no (b := b) (p := p) (L := lowN l) m)
  have HN : Hid ((lowN l : Int) = 9 * (3 - l)) := Lib.hid (by unfold lowN; omega)
  have HE : Hid (lowN l ≤ 18) := Lib.hid (by unfold lowN; omega)
  have HS := Lib.hid (h2_new (v0 := .int .i64 b) (v1 := .int .i8 l) (v2 := .int .u64 p) w k a X #[.int .i64 b, .int .i8 l, .int .u64 p, .int .i64 f] 29 rfl rfl rfl)
  clear m
  rw [← HR.out]
  generalize lowN l = L at HN HE HR ⊢
  go_enter Try.func13, Try.ntmps13
  go_wp2
  have H1 := Lib.hid h1
  have H3 := Lib.hid h3
  clear h1 h3
  go_region_held3 (fun w' => w'.cell? ⟨w.heap.size, 0, none⟩ = some (.int .i8 k) ∧ w'.cell? ⟨w.heap.size, 1, none⟩ = some (.int .i64 a) ∧ w'.cell? ⟨w.heap.size, 2, none⟩ = some (.int .u64 X) ∧ w'.cell? ⟨w.heap.size + 1, 0, none⟩ = some (.int .i64 b) ∧ w'.cell? ⟨w.heap.size + 1, 1, none⟩ = some (.int .i8 l) ∧ w'.cell? ⟨w.heap.size + 1, 2, none⟩ = some (.int .u64 p) ∧ w.heap.size + 1 < w'.heap.size ∧ Kp w w')
    (first | exact HS.out.drew | assumption | exact H2.drew (by assumption))
    (first | (go_at_call 21; rename_i hh _ _; refine (hitter_any _ _ _ _).mono ?_; rintro e w' ⟨rfl, hg⟩; rw [HV.out]; have hh' := H2.kp hh hg; (try (have hb' := BegAt.kp (by assumption) hg)); clear hh hg) | (go_at_call 22; rename_i hh _ _; refine (begins_any _ _ L _ H1.out H3.out HN.out).mono ?_; rintro e w' ⟨⟨A, B, rfl, hb⟩, hg⟩; have hh' := H2.kp hh hg; clear hh hg) | (go_at_call 24; rename_i hh _ _; refine (nothing_any _ _ _).mono ?_; rintro e w' ⟨rfl, hg⟩; have hh' := H2.kp hh hg; clear hh hg))
  all_goals
    rename_i hh
    have HH := Lib.hid hh; clear hh
    go_wp2_with fail
    go_ret
    exact ⟨rfl, HH.out.2.2.2.2.2.2.2⟩

theorem step_low (k a : Int) (X : Nat) (b l : Int) (p : Nat) (f : Int) (w : World) (h : l < 1) :
    Calls Try.prog 13 #[.agg #[.int .i8 k, .int .i64 a, .int .u64 X], .agg #[.int .i64 b, .int .i8 l, .int .u64 p, .int .i64 f]] w fun e w' => e = .returned (.bool (decide (MayP k a X ∧ k = 0))) ∧ Kp w w' := by
  have HS := Lib.hid (h2_new (v0 := .int .i64 b) (v1 := .int .i8 l) (v2 := .int .u64 p) w k a X #[.int .i64 b, .int .i8 l, .int .u64 p, .int .i64 f] 29 rfl rfl rfl)
  by_cases m : MayP k a X
  · have r := Lib.hid (may_yes m)
    have R : Hid ((k == 0) = decide (MayP k a X ∧ k = 0)) := Lib.hid (by rw [Bool.eq_iff_iff, beq_iff_eq, decide_eq_true_eq]; exact ⟨fun h => ⟨m, h⟩, fun h => h.2⟩)
    clear m
    rw [← R.out]
    go_enter Try.func13, Try.ntmps13
    go_wp2_with fail
    refine (may_any k a X _).mono ?_; rintro e w1 ⟨rfl, hg⟩
    rw [r.out]
    have hS := HS.out.kp hg
    have HS1 := Lib.hid hS
    obtain ⟨z0, z1, z2, -⟩ := hS
    clear hg
    go_wp2_with fail
    go_ret
    exact ⟨rfl, HS1.out.2.2.2.2.2.2.2⟩
  · have r := Lib.hid (may_no m)
    have R : Hid (false = decide (MayP k a X ∧ k = 0)) := Lib.hid (decide_eq_false fun h => m h.1).symm
    clear m
    rw [← R.out]
    go_enter Try.func13, Try.ntmps13
    go_wp2_with fail
    refine (may_any k a X _).mono ?_; rintro e w1 ⟨rfl, hg⟩
    rw [r.out]
    have HS1 := Lib.hid (HS.out.kp hg)
    clear hg
    go_wp2_with fail
    go_ret
    exact ⟨rfl, HS1.out.2.2.2.2.2.2.2⟩

theorem step_high (k a : Int) (X : Nat) (b l : Int) (p : Nat) (f : Int) (w : World) (h : 3 < l) :
    Calls Try.prog 13 #[.agg #[.int .i8 k, .int .i64 a, .int .u64 X], .agg #[.int .i64 b, .int .i8 l, .int .u64 p, .int .i64 f]] w fun e w' => e = .returned (.bool (decide (MayP k a X ∧ k = 0))) ∧ Kp w w' := by
  have HS := Lib.hid (h2_new (v0 := .int .i64 b) (v1 := .int .i8 l) (v2 := .int .u64 p) w k a X #[.int .i64 b, .int .i8 l, .int .u64 p, .int .i64 f] 29 rfl rfl rfl)
  by_cases m : MayP k a X
  · have r := Lib.hid (may_yes m)
    have R : Hid ((k == 0) = decide (MayP k a X ∧ k = 0)) := Lib.hid (by rw [Bool.eq_iff_iff, beq_iff_eq, decide_eq_true_eq]; exact ⟨fun h => ⟨m, h⟩, fun h => h.2⟩)
    clear m
    rw [← R.out]
    go_enter Try.func13, Try.ntmps13
    go_wp2_with fail
    refine (may_any k a X _).mono ?_; rintro e w1 ⟨rfl, hg⟩
    rw [r.out]
    have hS := HS.out.kp hg
    have HS1 := Lib.hid hS
    obtain ⟨z0, z1, z2, -⟩ := hS
    clear hg
    go_wp2_with fail
    go_ret
    exact ⟨rfl, HS1.out.2.2.2.2.2.2.2⟩
  · have r := Lib.hid (may_no m)
    have R : Hid (false = decide (MayP k a X ∧ k = 0)) := Lib.hid (decide_eq_false fun h => m h.1).symm
    clear m
    rw [← R.out]
    go_enter Try.func13, Try.ntmps13
    go_wp2_with fail
    refine (may_any k a X _).mono ?_; rintro e w1 ⟨rfl, hg⟩
    rw [r.out]
    have HS1 := Lib.hid (HS.out.kp hg)
    clear hg
    go_wp2_with fail
    go_ret
    exact ⟨rfl, HS1.out.2.2.2.2.2.2.2⟩

theorem step_any (k a : Int) (X : Nat) (b l : Int) (p : Nat) (f : Int) (w : World) :
    Calls Try.prog 13 #[.agg #[.int .i8 k, .int .i64 a, .int .u64 X], .agg #[.int .i64 b, .int .i8 l, .int .u64 p, .int .i64 f]] w fun e w' => e = .returned (.bool (stepB k a X b l p)) ∧ Kp w w' := by
  by_cases h1 : 1 ≤ l
  · by_cases h3 : l ≤ 3
    · rw [show stepB k a X b l p = hitsB k a X b p (lowN l) from if_pos ⟨h1, h3⟩]
      by_cases m : MayP k a X
      · by_cases k0 : k = 0
        · subst k0; exact step_all a X b l p f w m h1 h3
        · by_cases k1 : k = 1
          · subst k1; exact step_asid a X b l p f w m h1 h3
          · have k2 : k = 2 := by unfold MayP at m; omega
            subst k2; exact step_page a X b l p f w m h1 h3
      · exact step_no k a X b l p f w m h1 h3
    · rw [show stepB k a X b l p = decide (MayP k a X ∧ k = 0) from if_neg (by omega)]
      exact step_high k a X b l p f w (by omega)
  · rw [show stepB k a X b l p = decide (MayP k a X ∧ k = 0) from if_neg (by omega)]
    exact step_low k a X b l p f w (by omega)


/-! Covers -/
def covB (k a : Int) (X : Nat) (k' a' : Int) (X' : Nat) : Bool := if MayP k' a' X' ∧ k ≤ k' then hitsB k a X a' X' 0 else false

set_option maxHeartbeats 2000000 in
theorem cov_page (a : Int) (X : Nat) (k' a' : Int) (X' : Nat) (w : World) (m : MayP 2 a X) (m' : MayP k' a' X') (hk : 2 ≤ k') :
    Calls Try.prog 15 #[.agg #[.int .i8 2, .int .i64 a, .int .u64 X], .agg #[.int .i8 k', .int .i64 a', .int .u64 X']] w fun e w' => e = .returned (.bool (hitsB 2 a X a' X' 0)) ∧ Kp w w' := by
  have HV := Lib.hid (hit_page m rfl)
  have HR := Lib.hid (hb_page (b := a') (p := X') (L := 0) m)
  have r := Lib.hid (may_yes m')
  have HS := Lib.hid (h2_new (v0 := .int .i8 k') (v1 := .int .i64 a') (v2 := .int .u64 X') w 2 a X #[.int .i8 k', .int .i64 a', .int .u64 X'] 25 rfl rfl rfl)
  clear m m'
  rw [← HR.out]
  go_enter Try.func15, Try.ntmps15
  go_wp2_with fail
  refine (may_any k' a' X' _).mono ?_; rintro e w1 ⟨rfl, hg⟩
  rw [r.out]
  have hS := HS.out.kp hg
  have HS1 := Lib.hid hS
  obtain ⟨z0, z1, z2, y0, y1, y2, -⟩ := hS
  clear hg
  go_wp2
  go_region_held3 (fun w' => w'.cell? ⟨w.heap.size, 0, none⟩ = some (.int .i8 2) ∧ w'.cell? ⟨w.heap.size, 1, none⟩ = some (.int .i64 a) ∧ w'.cell? ⟨w.heap.size, 2, none⟩ = some (.int .u64 X) ∧ w'.cell? ⟨w.heap.size + 1, 0, none⟩ = some ((.int .i8 k')) ∧ w'.cell? ⟨w.heap.size + 1, 1, none⟩ = some ((.int .i64 a')) ∧ w'.cell? ⟨w.heap.size + 1, 2, none⟩ = some ((.int .u64 X')) ∧ w.heap.size + 1 < w'.heap.size ∧ Kp w w')
    (first | exact HS1.out.drew | assumption | exact H2.drew (by assumption))
    (first | (go_at_call 21; rename_i hh _ _; refine (hitter_any _ _ _ _).mono ?_; rintro e w' ⟨rfl, hg⟩; rw [HV.out]; have hh' := H2.kp hh hg; (try (have hb' := BegAt.kp (by assumption) hg)); clear hh hg) | (go_at_call 22; rename_i hh _ _; refine (begins_any _ 3 0 _ (by decide) (by decide) (by decide)).mono ?_; rintro e w' ⟨⟨A, B, rfl, hb⟩, hg⟩; have hh' := H2.kp hh hg; clear hh hg) | (go_at_call 27; rename_i hh _ _; refine (ofPage_any _ _ _ _ _ 0 _ _ (by decide) (by assumption)).mono ?_; rintro e w' ⟨rfl, hg⟩; have hh' := H2.kp hh hg; clear hh hg))
  all_goals
    rename_i hh
    have HH := Lib.hid hh; clear hh
    go_wp2_with fail
    go_ret
    exact ⟨rfl, HH.out.2.2.2.2.2.2.2⟩

set_option maxHeartbeats 2000000 in
theorem cov_asid (a : Int) (X : Nat) (k' a' : Int) (X' : Nat) (w : World) (m : MayP 1 a X) (m' : MayP k' a' X') (hk : 1 ≤ k') :
    Calls Try.prog 15 #[.agg #[.int .i8 1, .int .i64 a, .int .u64 X], .agg #[.int .i8 k', .int .i64 a', .int .u64 X']] w fun e w' => e = .returned (.bool (hitsB 1 a X a' X' 0)) ∧ Kp w w' := by
  have HV := Lib.hid (hit_asid m rfl)
  have HR := Lib.hid (hb_asid (b := a') (p := X') (L := 0) m)
  have r := Lib.hid (may_yes m')
  have HS := Lib.hid (h2_new (v0 := .int .i8 k') (v1 := .int .i64 a') (v2 := .int .u64 X') w 1 a X #[.int .i8 k', .int .i64 a', .int .u64 X'] 25 rfl rfl rfl)
  clear m m'
  rw [← HR.out]
  go_enter Try.func15, Try.ntmps15
  go_wp2_with fail
  refine (may_any k' a' X' _).mono ?_; rintro e w1 ⟨rfl, hg⟩
  rw [r.out]
  have hS := HS.out.kp hg
  have HS1 := Lib.hid hS
  obtain ⟨z0, z1, z2, y0, y1, y2, -⟩ := hS
  clear hg
  go_wp2
  go_region_held3 (fun w' => w'.cell? ⟨w.heap.size, 0, none⟩ = some (.int .i8 1) ∧ w'.cell? ⟨w.heap.size, 1, none⟩ = some (.int .i64 a) ∧ w'.cell? ⟨w.heap.size, 2, none⟩ = some (.int .u64 X) ∧ w'.cell? ⟨w.heap.size + 1, 0, none⟩ = some ((.int .i8 k')) ∧ w'.cell? ⟨w.heap.size + 1, 1, none⟩ = some ((.int .i64 a')) ∧ w'.cell? ⟨w.heap.size + 1, 2, none⟩ = some ((.int .u64 X')) ∧ w.heap.size + 1 < w'.heap.size ∧ Kp w w')
    (first | exact HS1.out.drew | assumption | exact H2.drew (by assumption))
    (first | (go_at_call 21; rename_i hh _ _; refine (hitter_any _ _ _ _).mono ?_; rintro e w' ⟨rfl, hg⟩; rw [HV.out]; have hh' := H2.kp hh hg; (try (have hb' := BegAt.kp (by assumption) hg)); clear hh hg) | (go_at_call 22; rename_i hh _ _; refine (begins_any _ 3 0 _ (by decide) (by decide) (by decide)).mono ?_; rintro e w' ⟨⟨A, B, rfl, hb⟩, hg⟩; have hh' := H2.kp hh hg; clear hh hg) | (go_at_call 26; rename_i hh _ _; refine (ofAsid_any _ _ _ _ _ _).mono ?_; rintro e w' ⟨rfl, hg⟩; have hh' := H2.kp hh hg; clear hh hg))
  all_goals
    rename_i hh
    have HH := Lib.hid hh; clear hh
    go_wp2_with fail
    go_ret
    exact ⟨rfl, HH.out.2.2.2.2.2.2.2⟩

set_option maxHeartbeats 2000000 in
theorem cov_all (a : Int) (X : Nat) (k' a' : Int) (X' : Nat) (w : World) (m : MayP 0 a X) (m' : MayP k' a' X') (hk : 0 ≤ k') :
    Calls Try.prog 15 #[.agg #[.int .i8 0, .int .i64 a, .int .u64 X], .agg #[.int .i8 k', .int .i64 a', .int .u64 X']] w fun e w' => e = .returned (.bool (hitsB 0 a X a' X' 0)) ∧ Kp w w' := by
  have HV := Lib.hid (hit_all m rfl)
  have HR := Lib.hid (hb_all (b := a') (p := X') (L := 0) m)
  have r := Lib.hid (may_yes m')
  have HS := Lib.hid (h2_new (v0 := .int .i8 k') (v1 := .int .i64 a') (v2 := .int .u64 X') w 0 a X #[.int .i8 k', .int .i64 a', .int .u64 X'] 25 rfl rfl rfl)
  clear m m'
  rw [← HR.out]
  go_enter Try.func15, Try.ntmps15
  go_wp2_with fail
  refine (may_any k' a' X' _).mono ?_; rintro e w1 ⟨rfl, hg⟩
  rw [r.out]
  have hS := HS.out.kp hg
  have HS1 := Lib.hid hS
  obtain ⟨z0, z1, z2, y0, y1, y2, -⟩ := hS
  clear hg
  go_wp2
  go_region_held3 (fun w' => w'.cell? ⟨w.heap.size, 0, none⟩ = some (.int .i8 0) ∧ w'.cell? ⟨w.heap.size, 1, none⟩ = some (.int .i64 a) ∧ w'.cell? ⟨w.heap.size, 2, none⟩ = some (.int .u64 X) ∧ w'.cell? ⟨w.heap.size + 1, 0, none⟩ = some ((.int .i8 k')) ∧ w'.cell? ⟨w.heap.size + 1, 1, none⟩ = some ((.int .i64 a')) ∧ w'.cell? ⟨w.heap.size + 1, 2, none⟩ = some ((.int .u64 X')) ∧ w.heap.size + 1 < w'.heap.size ∧ Kp w w')
    (first | exact HS1.out.drew | assumption | exact H2.drew (by assumption))
    (first | (go_at_call 21; rename_i hh _ _; refine (hitter_any _ _ _ _).mono ?_; rintro e w' ⟨rfl, hg⟩; rw [HV.out]; have hh' := H2.kp hh hg; (try (have hb' := BegAt.kp (by assumption) hg)); clear hh hg) | (go_at_call 22; rename_i hh _ _; refine (begins_any _ 3 0 _ (by decide) (by decide) (by decide)).mono ?_; rintro e w' ⟨⟨A, B, rfl, hb⟩, hg⟩; have hh' := H2.kp hh hg; clear hh hg) | (go_at_call 25; rename_i hh _ _; refine (each_any _ _ _).mono ?_; rintro e w' ⟨rfl, hg⟩; have hh' := H2.kp hh hg; clear hh hg))
  all_goals
    rename_i hh
    have HH := Lib.hid hh; clear hh
    go_wp2_with fail
    go_ret
    exact ⟨rfl, HH.out.2.2.2.2.2.2.2⟩

set_option maxHeartbeats 2000000 in
theorem cov_no (k a : Int) (X : Nat) (k' a' : Int) (X' : Nat) (w : World) (m : ¬ MayP k a X) (m' : MayP k' a' X') (hk : k ≤ k') :
    Calls Try.prog 15 #[.agg #[.int .i8 k, .int .i64 a, .int .u64 X], .agg #[.int .i8 k', .int .i64 a', .int .u64 X']] w fun e w' => e = .returned (.bool (hitsB k a X a' X' 0)) ∧ Kp w w' := by
  have HV := Lib.hid (hit_no m)
  have HR := Lib.hid (hb_no (b := a') (p := X') (L := 0) m)
  have r := Lib.hid (may_yes m')
  have HS := Lib.hid (h2_new (v0 := .int .i8 k') (v1 := .int .i64 a') (v2 := .int .u64 X') w k a X #[.int .i8 k', .int .i64 a', .int .u64 X'] 25 rfl rfl rfl)
  clear m m'
  rw [← HR.out]
  go_enter Try.func15, Try.ntmps15
  go_wp2_with fail
  refine (may_any k' a' X' _).mono ?_; rintro e w1 ⟨rfl, hg⟩
  rw [r.out]
  have hS := HS.out.kp hg
  have HS1 := Lib.hid hS
  obtain ⟨z0, z1, z2, y0, y1, y2, -⟩ := hS
  clear hg
  go_wp2
  go_region_held3 (fun w' => w'.cell? ⟨w.heap.size, 0, none⟩ = some (.int .i8 k) ∧ w'.cell? ⟨w.heap.size, 1, none⟩ = some (.int .i64 a) ∧ w'.cell? ⟨w.heap.size, 2, none⟩ = some (.int .u64 X) ∧ w'.cell? ⟨w.heap.size + 1, 0, none⟩ = some ((.int .i8 k')) ∧ w'.cell? ⟨w.heap.size + 1, 1, none⟩ = some ((.int .i64 a')) ∧ w'.cell? ⟨w.heap.size + 1, 2, none⟩ = some ((.int .u64 X')) ∧ w.heap.size + 1 < w'.heap.size ∧ Kp w w')
    (first | exact HS1.out.drew | assumption | exact H2.drew (by assumption))
    (first | (go_at_call 21; rename_i hh _ _; refine (hitter_any _ _ _ _).mono ?_; rintro e w' ⟨rfl, hg⟩; rw [HV.out]; have hh' := H2.kp hh hg; (try (have hb' := BegAt.kp (by assumption) hg)); clear hh hg) | (go_at_call 22; rename_i hh _ _; refine (begins_any _ 3 0 _ (by decide) (by decide) (by decide)).mono ?_; rintro e w' ⟨⟨A, B, rfl, hb⟩, hg⟩; have hh' := H2.kp hh hg; clear hh hg) | (go_at_call 24; rename_i hh _ _; refine (nothing_any _ _ _).mono ?_; rintro e w' ⟨rfl, hg⟩; have hh' := H2.kp hh hg; clear hh hg))
  all_goals
    rename_i hh
    have HH := Lib.hid hh; clear hh
    go_wp2_with fail
    go_ret
    exact ⟨rfl, HH.out.2.2.2.2.2.2.2⟩

theorem cov_other (k a : Int) (X : Nat) (k' a' : Int) (X' : Nat) (w : World) (m : ¬ MayP k' a' X') :
    Calls Try.prog 15 #[.agg #[.int .i8 k, .int .i64 a, .int .u64 X], .agg #[.int .i8 k', .int .i64 a', .int .u64 X']] w fun e w' => e = .returned (.bool false) ∧ Kp w w' := by
  have r := Lib.hid (may_no m)
  have HS := Lib.hid (h2_new (v0 := .int .i8 k') (v1 := .int .i64 a') (v2 := .int .u64 X') w k a X #[.int .i8 k', .int .i64 a', .int .u64 X'] 25 rfl rfl rfl)
  clear m
  go_enter Try.func15, Try.ntmps15
  go_wp2_with fail
  refine (may_any k' a' X' _).mono ?_; rintro e w1 ⟨rfl, hg⟩
  rw [r.out]
  have hS := HS.out.kp hg
  have HS1 := Lib.hid hS
  obtain ⟨z0, z1, z2, y0, y1, y2, -⟩ := hS
  clear hg
  go_wp2_with fail
  go_ret
  exact ⟨rfl, HS1.out.2.2.2.2.2.2.2⟩

theorem cov_less (k a : Int) (X : Nat) (k' a' : Int) (X' : Nat) (w : World) (m : MayP k' a' X') (hk : k' < k) :
    Calls Try.prog 15 #[.agg #[.int .i8 k, .int .i64 a, .int .u64 X], .agg #[.int .i8 k', .int .i64 a', .int .u64 X']] w fun e w' => e = .returned (.bool false) ∧ Kp w w' := by
  have r := Lib.hid (may_yes m)
  have HS := Lib.hid (h2_new (v0 := .int .i8 k') (v1 := .int .i64 a') (v2 := .int .u64 X') w k a X #[.int .i8 k', .int .i64 a', .int .u64 X'] 25 rfl rfl rfl)
  clear m
  go_enter Try.func15, Try.ntmps15
  go_wp2_with fail
  refine (may_any k' a' X' _).mono ?_; rintro e w1 ⟨rfl, hg⟩
  rw [r.out]
  have hS := HS.out.kp hg
  have HS1 := Lib.hid hS
  obtain ⟨z0, z1, z2, y0, y1, y2, -⟩ := hS
  clear hg
  go_wp2_with fail
  go_ret
  exact ⟨rfl, HS1.out.2.2.2.2.2.2.2⟩

theorem cov_any (k a : Int) (X : Nat) (k' a' : Int) (X' : Nat) (w : World) :
    Calls Try.prog 15 #[.agg #[.int .i8 k, .int .i64 a, .int .u64 X], .agg #[.int .i8 k', .int .i64 a', .int .u64 X']] w fun e w' => e = .returned (.bool (covB k a X k' a' X')) ∧ Kp w w' := by
  by_cases m' : MayP k' a' X'
  · by_cases hk : k ≤ k'
    · rw [show covB k a X k' a' X' = hitsB k a X a' X' 0 from if_pos ⟨m', hk⟩]
      by_cases m : MayP k a X
      · by_cases k0 : k = 0
        · subst k0; exact cov_all a X k' a' X' w m m' hk
        · by_cases k1 : k = 1
          · subst k1; exact cov_asid a X k' a' X' w m m' hk
          · have k2 : k = 2 := by unfold MayP at m; omega
            subst k2; exact cov_page a X k' a' X' w m m' hk
      · exact cov_no k a X k' a' X' w m m' hk
    · rw [show covB k a X k' a' X' = false from if_neg (by omega)]
      exact cov_less k a X k' a' X' w m' (by omega)
  · rw [show covB k a X k' a' X' = false from if_neg (fun h => m' h.1)]
    exact cov_other k a X k' a' X' w m'

end Go.Proofs.Ytgchpicfhbhikaa
