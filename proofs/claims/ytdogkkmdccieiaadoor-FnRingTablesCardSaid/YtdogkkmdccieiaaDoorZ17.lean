/- Several texts in one: XRpm, XIy. -/
import Derived.Test.YtdogkkmdccieiaaDoorEM
import Derived.Test.YtdogkkmdccieiaaDoorZ16

/- Chapter 4: what FnRingProducts asks of the numbers: norms of products, Cayley and Hamilton, the order of products, modulo 2^64. Mathematics; no Go function in sight. -/
namespace Go.Proofs.YtdogkkmdccieiaaDoor
open Go.RowKit

theorem wr_0 : wrap64 0 = 0 := wr_in (by omega)
/-- Equal modulo 2^64. -/
def WE (x y : Int) : Prop := wrap64 x = wrap64 y
theorem WE.r (x : Int) : WE x x := rfl
theorem WE.w {x y : Int} (h : WE x y) : WE (wrap64 x) y := by
  have e := wr_al x 0
  rw [Int.add_zero, Int.add_zero] at e
  exact e.trans h
theorem WE.a {x y u v : Int} (h : WE x u) (h' : WE y v) : WE (x + y) (u + v) := by unfold WE at *; rw [← wr_al, ← wr_ar, h, h', wr_al, wr_ar]
theorem WE.s {x y u v : Int} (h : WE x u) (h' : WE y v) : WE (x - y) (u - v) := by unfold WE at *; rw [← wr_sl, ← wr_sr, h, h', wr_sl, wr_sr]
theorem WE.m {x y u v : Int} (h : WE x u) (h' : WE y v) : WE (x * y) (u * v) := by unfold WE at *; rw [← wr_ml, ← wr_mr, h, h', wr_ml, wr_mr]
theorem WE.n {x u : Int} (h : WE x u) : WE (-x) (-u) := by
  have := (WE.r 0).s h
  rwa [Int.zero_sub, Int.zero_sub] at this
/-- Determinants, products of elements as whole numbers. -/
def dt (a b c d e f g h i : Int) : Int := a * (e * i - f * h) - b * (d * i - f * g) + c * (d * h - e * g)
theorem dt_mul (a b c d e f g h i A B C D E F G H I : Int) :
    dt (a*A+b*D+c*G) (a*B+b*E+c*H) (a*C+b*F+c*I) (d*A+e*D+f*G) (d*B+e*E+f*H) (d*C+e*F+f*I) (g*A+h*D+i*G) (g*B+h*E+i*H) (g*C+h*F+i*I) =
    dt a b c d e f g h i * dt A B C D E F G H I := by
  unfold dt; grind
def z0 (a b c d u v x p q r : Int) : Int := mm (u * p) (-a * c) (-a * d) (-b * d) v x q r
def z1 (a b _c d u v x p q r : Int) : Int := mm (u * q + v * p) b (a * 0) d v x q r
def z2 (a b c _d u v x p q r : Int) : Int := mm (u * r + x * p) (-a) (b * 0) (-c) v x q r
theorem mm_w {h p q r x1 x2 y1 y2 h' p' q' r' x1' x2' y1' y2' : Int} (e0 : WE h h') (e1 : WE p p') (e2 : WE q q') (e3 : WE r r') (f1 : WE x1 x1') (f2 : WE x2 x2') (g1 : WE y1 y1') (g2 : WE y2 y2') :
    WE (mm h p q r x1 x2 y1 y2) (mm h' p' q' r' x1' x2' y1' y2') := by
  unfold mm
  exact ((e0.a ((f1.m g1).m e1)).a (((f1.m g2).a (f2.m g1)).m e2)).a ((f2.m g2).m e3)
theorem z0_w (a b c d : Int) {u v x p q r u' v' x' p' q' r' : Int} (hu : WE u u') (hv : WE v v') (hx : WE x x') (hp : WE p p') (hq : WE q q') (hr : WE r r') :
    WE (m0 (np a c) (np a d) (np b d) u v x p q r) (z0 a b c d u' v' x' p' q' r') :=
  (mm_w (hu.m hp) (WE.r _).w (WE.r _).w (WE.r _).w hv hx hq hr).w
theorem z1_w (a b c d : Int) {u v x p q r u' v' x' p' q' r' : Int} (hu : WE u u') (hv : WE v v') (hx : WE x x') (hp : WE p p') (hq : WE q q') (hr : WE r r') :
    WE (m1 b 0 d u v x p q r) (z1 a b c d u' v' x' p' q' r') :=
  (mm_w ((hu.m hq).a (hv.m hp)) (WE.r _) (by rw [Int.mul_zero]; exact WE.r _) (WE.r _) hv hx hq hr).w
theorem z2_w (a b c d : Int) {u v x p q r u' v' x' p' q' r' : Int} (hu : WE u u') (hv : WE v v') (hx : WE x x') (hp : WE p p') (hq : WE q q') (hr : WE r r') :
    WE (m2 (ng a) 0 (ng c) u v x p q r) (z2 a b c d u' v' x' p' q' r') :=
  (mm_w ((hu.m hr).a (hx.m hp)) (WE.r _).w (by rw [Int.mul_zero]; exact WE.r _) (WE.r _).w hv hx hq hr).w
/-- The norm, the sum of the minors, the trace as whole numbers. -/
def nz (a b c d u v x : Int) : Int := dt (z0 a b c d u v x 1 0 0) (z1 a b c d u v x 1 0 0) (z2 a b c d u v x 1 0 0) (z0 a b c d u v x 0 1 0) (z1 a b c d u v x 0 1 0) (z2 a b c d u v x 0 1 0) (z0 a b c d u v x 0 0 1) (z1 a b c d u v x 0 0 1) (z2 a b c d u v x 0 0 1)
def tz (a b c d u v x : Int) : Int := z0 a b c d u v x 1 0 0 + z1 a b c d u v x 0 1 0 + z2 a b c d u v x 0 0 1
def sz (a b c d u v x : Int) : Int := z1 a b c d u v x 0 1 0 * z0 a b c d u v x 1 0 0 - z0 a b c d u v x 0 1 0 * z1 a b c d u v x 1 0 0 + (z2 a b c d u v x 0 0 1 * z0 a b c d u v x 1 0 0 - z0 a b c d u v x 0 0 1 * z2 a b c d u v x 1 0 0) +
  (z2 a b c d u v x 0 0 1 * z1 a b c d u v x 0 1 0 - z1 a b c d u v x 0 0 1 * z2 a b c d u v x 0 1 0)
theorem mtf_w (a b c d : Int) {u v x u' v' x' : Int} (hu : WE u u') (hv : WE v v') (hx : WE x x') :
    WE (tr3 (mtf a b c d u v x)) (tz a b c d u' v' x') ∧ WE (mi3 (mtf a b c d u v x)) (sz a b c d u' v' x') ∧ WE (de3 (mtf a b c d u v x)) (nz a b c d u' v' x') := by
  have r := WE.r
  have a0 := fun p q s => z0_w a b c d hu hv hx (r p) (r q) (r s)
  have a1 := fun p q s => z1_w a b c d hu hv hx (r p) (r q) (r s)
  have a2 := fun p q s => z2_w a b c d hu hv hx (r p) (r q) (r s)
  refine ⟨((a0 1 0 0).a (a1 0 1 0)).a (a2 0 0 1), ?_, ?_⟩
  · exact ((((a1 0 1 0).m (a0 1 0 0)).s ((a0 0 1 0).m (a1 1 0 0))).a (((a2 0 0 1).m (a0 1 0 0)).s ((a0 0 0 1).m (a2 1 0 0)))).a (((a2 0 0 1).m (a1 0 1 0)).s ((a1 0 0 1).m (a2 0 1 0)))
  · exact (((a0 1 0 0).m (((a1 0 1 0).m (a2 0 0 1)).s ((a2 0 1 0).m (a1 0 0 1)))).s ((a1 1 0 0).m (((a0 0 1 0).m (a2 0 0 1)).s ((a2 0 1 0).m (a0 0 0 1))))).a ((a2 1 0 0).m (((a0 0 1 0).m (a1 0 0 1)).s ((a1 0 1 0).m (a0 0 0 1))))
theorem nz_mul (a b c d u v x p q r : Int) : nz a b c d (z0 a b c d u v x p q r) (z1 a b c d u v x p q r) (z2 a b c d u v x p q r) = nz a b c d u v x * nz a b c d p q r := by
  unfold nz
  rw [← dt_mul]
  congr 1 <;> (simp only [z0, z1, z2, mm]; grind)
/-- Cayley and Hamilton. -/
theorem chz (a b c d u v x : Int) :
    z0 a b c d (z0 a b c d u v x u v x) (z1 a b c d u v x u v x) (z2 a b c d u v x u v x) u v x + -tz a b c d u v x * z0 a b c d u v x u v x + sz a b c d u v x * u + -nz a b c d u v x = 0 ∧
    z1 a b c d (z0 a b c d u v x u v x) (z1 a b c d u v x u v x) (z2 a b c d u v x u v x) u v x + -tz a b c d u v x * z1 a b c d u v x u v x + sz a b c d u v x * v = 0 ∧
    z2 a b c d (z0 a b c d u v x u v x) (z1 a b c d u v x u v x) (z2 a b c d u v x u v x) u v x + -tz a b c d u v x * z2 a b c d u v x u v x + sz a b c d u v x * x = 0 := by
  unfold nz tz sz dt; simp only [z0, z1, z2, mm]; refine ⟨?_, ?_, ?_⟩ <;> grind
/-- The norm of a product. -/
theorem rp_norm (a b c d u v x p q r : Int) :
    wrap64 (de3 (mtf a b c d (m0 (np a c) (np a d) (np b d) u v x p q r) (m1 b 0 d u v x p q r) (m2 (ng a) 0 (ng c) u v x p q r))) = wrap64 (wrap64 (de3 (mtf a b c d u v x)) * wrap64 (de3 (mtf a b c d p q r))) := by
  have r' := WE.r
  have k0 := z0_w a b c d (r' u) (r' v) (r' x) (r' p) (r' q) (r' r)
  have k1 := z1_w a b c d (r' u) (r' v) (r' x) (r' p) (r' q) (r' r)
  have k2 := z2_w a b c d (r' u) (r' v) (r' x) (r' p) (r' q) (r' r)
  have e := (mtf_w a b c d k0 k1 k2).2.2
  rw [nz_mul] at e
  exact e.trans (((mtf_w a b c d (r' u) (r' v) (r' x)).2.2.w.m (mtf_w a b c d (r' p) (r' q) (r' r)).2.2.w).symm)
/-- Every element solves its polynomial. -/
theorem rp_ch {a b c d u v x l1 l2 l3 s0 s1 s2 : Int} (h1 : l1 = wrap64 (-tr3 (mtf a b c d u v x))) (h2 : l2 = wrap64 (mi3 (mtf a b c d u v x))) (h3 : l3 = wrap64 (-de3 (mtf a b c d u v x)))
    (e0 : s0 = m0 (np a c) (np a d) (np b d) u v x u v x) (e1 : s1 = m1 b 0 d u v x u v x) (e2 : s2 = m2 (ng a) 0 (ng c) u v x u v x) :
    wrap64 (m0 (np a c) (np a d) (np b d) s0 s1 s2 u v x + l1 * s0 + l2 * u + l3) = 0 ∧ wrap64 (m1 b 0 d s0 s1 s2 u v x + l1 * s1 + l2 * v) = 0 ∧ wrap64 (m2 (ng a) 0 (ng c) s0 s1 s2 u v x + l1 * s2 + l2 * x) = 0 := by
  have r' := WE.r
  obtain ⟨t, s, n⟩ := mtf_w a b c d (r' u) (r' v) (r' x)
  have w1 : WE l1 (-tz a b c d u v x) := by rw [h1]; exact t.n.w
  have w2 : WE l2 (sz a b c d u v x) := by rw [h2]; exact s.w
  have w3 : WE l3 (-nz a b c d u v x) := by rw [h3]; exact n.n.w
  have q0 : WE s0 (z0 a b c d u v x u v x) := by rw [e0]; exact z0_w a b c d (r' u) (r' v) (r' x) (r' u) (r' v) (r' x)
  have q1 : WE s1 (z1 a b c d u v x u v x) := by rw [e1]; exact z1_w a b c d (r' u) (r' v) (r' x) (r' u) (r' v) (r' x)
  have q2 : WE s2 (z2 a b c d u v x u v x) := by rw [e2]; exact z2_w a b c d (r' u) (r' v) (r' x) (r' u) (r' v) (r' x)
  obtain ⟨c0, c1, c2⟩ := chz a b c d u v x
  refine ⟨?_, ?_, ?_⟩
  · have h := (((z0_w a b c d q0 q1 q2 (r' u) (r' v) (r' x)).a (w1.m q0)).a (w2.m (r' u))).a w3
    rw [c0] at h; exact h.trans wr_0
  · have h := ((z1_w a b c d q0 q1 q2 (r' u) (r' v) (r' x)).a (w1.m q1)).a (w2.m (r' v))
    rw [c1] at h; exact h.trans wr_0
  · have h := ((z2_w a b c d q0 q1 q2 (r' u) (r' v) (r' x)).a (w1.m q2)).a (w2.m (r' x))
    rw [c2] at h; exact h.trans wr_0
/-- Products do not ask for the order. -/
theorem rp_co (p q r u v x s t w : Int) : m0 p q r u v x s t w = m0 p q r s t w u v x ∧ m1 p q r u v x s t w = m1 p q r s t w u v x ∧ m2 p q r u v x s t w = m2 p q r s t w u v x := by
  unfold m0 m1 m2 mm; refine ⟨?_, ?_, ?_⟩ <;> (congr 1; grind)

end Go.Proofs.YtdogkkmdccieiaaDoor

/- Chapter 4: inverses of units: the numbers of the answer. -/
namespace Go.Proofs.YtdogkkmdccieiaaDoor
open Go.RowKit

/-- The norm, and the numbers of the inverse. -/
def ivN (a b c d u v x : Int) : Int := wrap64 (-(wrap64 (-de3 (mtf a b c d u v x))))
def iv0 (a b c d u v x : Int) : Int := ivn (ivN a b c d u v x) (m0 (np a c) (np a d) (np b d) u v x u v x) (wrap64 (-tr3 (mtf a b c d u v x))) u (wrap64 (mi3 (mtf a b c d u v x))) 1
def iv1 (a b c d u v x : Int) : Int := ivn (ivN a b c d u v x) (m1 b 0 d u v x u v x) (wrap64 (-tr3 (mtf a b c d u v x))) v (wrap64 (mi3 (mtf a b c d u v x))) 0
def iv2 (a b c d u v x : Int) : Int := ivn (ivN a b c d u v x) (m2 (ng a) 0 (ng c) u v x u v x) (wrap64 (-tr3 (mtf a b c d u v x))) x (wrap64 (mi3 (mtf a b c d u v x))) 0
/-- The code of the answer. -/
def ivK (k N e : Int) : Int := if k = 0 then (if N = 1 ∨ N = -1 then e else 5) else k
def ivc (a b c d u v x : Int) : Int := ivK (few 100 a b c d u v x) (ivN a b c d u v x) (elc (iv0 a b c d u v x) (iv1 a b c d u v x) (iv2 a b c d u v x))
theorem ivK_n {k N e : Int} (h : ¬ k = 0) : ivK k N e = k := by simp [ivK, h]
theorem ivK_u {N e : Int} (h : N = 1 ∨ N = -1) : ivK 0 N e = e := by simp [ivK, h]
theorem ivK_5 {N e : Int} (h : ¬ (N = 1 ∨ N = -1)) : ivK 0 N e = 5 := by simp only [ivK, if_true, if_neg h]


end Go.Proofs.YtdogkkmdccieiaaDoor
