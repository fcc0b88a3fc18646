/-
  Part of a proof: frame's hasOnlyItsOwn, by its contract. Conditions: those that each theorem names.
-/
import Derived.Test.YtooaajnkiokpnaaGreatDoorQ01
import Derived.Test.YtooaajnkiokpnaaGreatDoorQ02
namespace Go.Proofs.YtooaajnkiokpnaaGreatDoor
open Go.RowKit Go.WideShapes
set_option maxHeartbeats 2000000
set_option maxRecDepth 100000
section
theorem xg(a b c d:Nat)(ha:a<4294967296)(hb:b<4294967296)(hc:c<4294967296)(hd:d<4294967296) :
  ∃p q r:Nat,bits .or .u32 (a:Int) (b:Int)=(p:Int)∧bits .or .u32 (p:Int) (c:Int)=(q:Int)∧bits .or .u32 (q:Int) (d:Int)=(r:Int)∧(r=0↔a=0∧b=0∧c=0∧d=0):=by
 have h1:a ||| b<2 ^ 32:=Nat.or_lt_two_pow (by omega) (by omega)
 have h2:a ||| b ||| c<2 ^ 32:=Nat.or_lt_two_pow h1 (by omega)
 exact⟨a ||| b,a ||| b ||| c,a ||| b ||| c ||| d,u32_or_nat _ _ (by omega) (by omega),u32_or_nat _ _ (by omega) (by omega),u32_or_nat _ _ (by omega) (by omega),by rw[Nat.or_eq_zero_iff,Nat.or_eq_zero_iff,Nat.or_eq_zero_iff];omega⟩
structure Fm.Ok(x:Fm):Prop where
 ty:x.ty<256
 fl:x.fl<256
 st:x.st<4294967296
 code:x.code<4294967296
 oth:x.oth<4294967296
 wt:x.wt<256
 win:x.win<4294967296
def Fm.own(x:Fm):Bool:=decide (qc x.ty x.fl x.dn x.code x.oth x.wt x.al x.win x.sn)
theorem zwb(x:Fm)(hk:x.Ok)(w:World):Calls Tryz.prog 186 #[.agg x.c] w λe w'=>e=.returned (.bool x.own)∧Below w.heap.size w w':=by
 have h8:=zfw ⟨x.fl,hk.fl⟩
 simp only at h8
 unfold Fm.c
 rcases kinds x.ty with h|h|h|h|h|h|h|h|h|h|h
 ·have hB0:=True.intro
  obtain⟨p,q,r,o1,o2,o3,o4⟩:=xg x.code x.oth x.win x.wt hk.code hk.oth hk.win (by have:=hk.wt;omega)
  have E0:r≠0→x.own=false:=λhr=>decide_eq_false λhO=>by
   unfold qc zu at hO
   obtain⟨a1,a2,a3,a4,a5,a6,a7⟩:=hO
   exact hr (o4.2 (by omega))
  have E1:x.al=true→x.own=false:=λha=>decide_eq_false λhO=>by
   unfold qc zu at hO
   obtain⟨a1,a2,a3,a4,a5,a6,a7⟩:=hO
   have:=a2 ha
   omega
  have E_sn:x.sn≠0→x.own=false:=λhv=>decide_eq_false λhO=>by
   unfold qc zu at hO
   obtain⟨a1,a2,a3,a4,a5,a6,a7⟩:=hO
   omega
  have E2:r=0→x.al=false→x.sn=0→x.own=true:=λhr ha hsn=>decide_eq_true (by
   unfold qc zu
   have:=o4.1 hr
   refine⟨λ_=>by omega,λh1=>absurd h1 (by rw[ha];simp),λ_=>by omega,λ_=>by omega,λ_=>by omega,λ_=>by omega,λ_=>by omega⟩)
  have hc:(r≠0∧x.own=false)∨(r=0∧x.al=true∧x.own=false)∨(r=0∧x.al=false∧x.sn=0∧x.own=true)∨(r=0∧x.al=false∧x.sn≠0∧x.own=false):=by
   by_cases h0:r=0
   ·by_cases ha:x.al=true
    ·exact(.inr (.inl ⟨h0,ha,E1 ha⟩))
    ·have ha:x.al=false:=by simpa using ha
     by_cases ht:x.sn=0
     ·exact(.inr (.inr (.inl ⟨h0,ha,ht,E2 h0 ha ht⟩)))
     ·exact(.inr (.inr (.inr (⟨h0,ha,ht,E_sn ht⟩))))
   ·exact(.inl ⟨h0,E0 h0⟩)
  clear E0 E2 E1 E_sn
  clear o4
  rcases hc with ⟨hr,hE⟩|⟨hr,ha,hE⟩|⟨hr,ha,ht,hE⟩|⟨hr,ha,ht,hE⟩
  ·rw[hE]
   have hr2:((r:Int) == 0)=false:=zo (b:=0) hr
   clear hr
   rw[h]
   have hwm:(x.wt:Int)%4294967296=(x.wt:Int):=by have:=hk.wt;omega
   clear hE h8 h hk hB0
   go_enter Tryz.func186,Tryz.ntmps186
   go_wp2
   go_ret
   exact⟨rfl,(Below.refl _ _).alloc (Nat.le_refl _) _⟩
  ·rw[hE]
   rw[hr] at o3
   simp only[show ((0:Nat):Int)=0 from rfl] at o3
   rw[ha]
   clear hr ha
   rw[h]
   have hwm:(x.wt:Int)%4294967296=(x.wt:Int):=by have:=hk.wt;omega
   clear hE h8 h hk hB0
   go_enter Tryz.func186,Tryz.ntmps186
   go_wp2
   go_ret
   exact⟨rfl,(Below.refl _ _).alloc (Nat.le_refl _) _⟩
  ·rw[hE]
   rw[hr] at o3
   simp only[show ((0:Nat):Int)=0 from rfl] at o3
   rw[ha]
   rw[ht]
   clear ht
   clear hr ha
   rw[h]
   have hwm:(x.wt:Int)%4294967296=(x.wt:Int):=by have:=hk.wt;omega
   clear hE h8 h hk hB0
   go_enter Tryz.func186,Tryz.ntmps186
   go_wp2
   go_ret
   exact⟨rfl,(Below.refl _ _).alloc (Nat.le_refl _) _⟩
  ·rw[hE]
   rw[hr] at o3
   simp only[show ((0:Nat):Int)=0 from rfl] at o3
   rw[ha]
   have ht2:((x.sn:Int) == 0)=false:=zo (b:=0) ht
   clear ht
   clear hr ha
   rw[h]
   have hwm:(x.wt:Int)%4294967296=(x.wt:Int):=by have:=hk.wt;omega
   clear hE h8 h hk hB0
   go_enter Tryz.func186,Tryz.ntmps186
   go_wp2
   go_ret
   exact⟨rfl,(Below.refl _ _).alloc (Nat.le_refl _) _⟩
 ·by_cases hb:x.fl / 32%2=1
  ·have hB0:=True.intro
   rw[hb] at h8
   have h8':=h8
   clear h8
   have h8:=hb
   obtain⟨p,q,r,o1,o2,o3,o4⟩:=xg x.code 0 x.win 0 hk.code (by omega) hk.win (by omega)
   simp only[show ((0:Nat):Int)=0 from rfl] at o1 o2 o3
   have E0:r≠0→x.own=false:=λhr=>decide_eq_false λhO=>by
    unfold qc zu at hO
    obtain⟨a1,a2,a3,a4,a5,a6,a7⟩:=hO
    exact hr (o4.2 (by omega))
   have E_sn:x.sn≠0→x.own=false:=λhv=>decide_eq_false λhO=>by
    unfold qc zu at hO
    obtain⟨a1,a2,a3,a4,a5,a6,a7⟩:=hO
    omega
   have E2:r=0→x.sn=0→x.own=true:=λhr hsn=>decide_eq_true (by
    unfold qc zu
    have:=o4.1 hr
    refine⟨λ_=>by omega,λh1=>by omega,λ_=>by omega,λ_=>by omega,λ_=>by omega,λ_=>by omega,λ_=>by omega⟩)
   have hc:(r≠0∧x.own=false)∨(r=0∧x.sn=0∧x.own=true)∨(r=0∧x.sn≠0∧x.own=false):=by
    by_cases h0:r=0
    ·have hx:=True.intro
     by_cases ht:x.sn=0
     ·exact(.inr (.inl ⟨h0,ht,E2 h0 ht⟩))
     ·exact(.inr (.inr (⟨h0,ht,E_sn ht⟩)))
    ·exact(.inl ⟨h0,E0 h0⟩)
   clear E0 E2 E_sn
   clear o4
   rcases hc with ⟨hr,hE⟩|⟨hr,ht,hE⟩|⟨hr,ht,hE⟩
   ·rw[hE]
    have hr2:((r:Int) == 0)=false:=zo (b:=0) hr
    clear hr
    rw[h]
    have hwm:(x.wt:Int)%4294967296=(x.wt:Int):=by have:=hk.wt;omega
    clear hE h8 h hk hB0
    go_enter Tryz.func186,Tryz.ntmps186
    go_wp2
    go_ret
    exact⟨rfl,(Below.refl _ _).alloc (Nat.le_refl _) _⟩
   ·rw[hE]
    rw[hr] at o3
    simp only[show ((0:Nat):Int)=0 from rfl] at o3
    rw[ht]
    clear ht
    clear hr
    rw[h]
    have hwm:(x.wt:Int)%4294967296=(x.wt:Int):=by have:=hk.wt;omega
    clear hE h8 h hk hB0
    go_enter Tryz.func186,Tryz.ntmps186
    go_wp2
    go_ret
    exact⟨rfl,(Below.refl _ _).alloc (Nat.le_refl _) _⟩
   ·rw[hE]
    rw[hr] at o3
    simp only[show ((0:Nat):Int)=0 from rfl] at o3
    have ht2:((x.sn:Int) == 0)=false:=zo (b:=0) ht
    clear ht
    clear hr
    rw[h]
    have hwm:(x.wt:Int)%4294967296=(x.wt:Int):=by have:=hk.wt;omega
    clear hE h8 h hk hB0
    go_enter Tryz.func186,Tryz.ntmps186
    go_wp2
    go_ret
    exact⟨rfl,(Below.refl _ _).alloc (Nat.le_refl _) _⟩
  ·have hB0:=True.intro
   rw[show x.fl / 32%2=0 by omega] at h8
   have h8':=h8
   clear h8
   have h8:=hb
   obtain⟨p,q,r,o1,o2,o3,o4⟩:=xg x.code x.oth x.win x.wt hk.code hk.oth hk.win (by have:=hk.wt;omega)
   have E0:r≠0→x.own=false:=λhr=>decide_eq_false λhO=>by
    unfold qc zu at hO
    obtain⟨a1,a2,a3,a4,a5,a6,a7⟩:=hO
    exact hr (o4.2 (by omega))
   have E1:x.al=true→x.own=false:=λha=>decide_eq_false λhO=>by
    unfold qc zu at hO
    obtain⟨a1,a2,a3,a4,a5,a6,a7⟩:=hO
    have:=a2 ha
    omega
   have E_sn:x.sn≠0→x.own=false:=λhv=>decide_eq_false λhO=>by
    unfold qc zu at hO
    obtain⟨a1,a2,a3,a4,a5,a6,a7⟩:=hO
    omega
   have E2:r=0→x.al=false→x.sn=0→x.own=true:=λhr ha hsn=>decide_eq_true (by
    unfold qc zu
    have:=o4.1 hr
    refine⟨λ_=>by omega,λh1=>absurd h1 (by rw[ha];simp),λ_=>by omega,λ_=>by omega,λ_=>by omega,λ_=>by omega,λ_=>by omega⟩)
   have hc:(r≠0∧x.own=false)∨(r=0∧x.al=true∧x.own=false)∨(r=0∧x.al=false∧x.sn=0∧x.own=true)∨(r=0∧x.al=false∧x.sn≠0∧x.own=false):=by
    by_cases h0:r=0
    ·by_cases ha:x.al=true
     ·exact(.inr (.inl ⟨h0,ha,E1 ha⟩))
     ·have ha:x.al=false:=by simpa using ha
      by_cases ht:x.sn=0
      ·exact(.inr (.inr (.inl ⟨h0,ha,ht,E2 h0 ha ht⟩)))
      ·exact(.inr (.inr (.inr (⟨h0,ha,ht,E_sn ht⟩))))
    ·exact(.inl ⟨h0,E0 h0⟩)
   clear E0 E2 E1 E_sn
   clear o4
   rcases hc with ⟨hr,hE⟩|⟨hr,ha,hE⟩|⟨hr,ha,ht,hE⟩|⟨hr,ha,ht,hE⟩
   ·rw[hE]
    have hr2:((r:Int) == 0)=false:=zo (b:=0) hr
    clear hr
    rw[h]
    have hwm:(x.wt:Int)%4294967296=(x.wt:Int):=by have:=hk.wt;omega
    clear hE h8 h hk hB0
    go_enter Tryz.func186,Tryz.ntmps186
    go_wp2
    go_ret
    exact⟨rfl,(Below.refl _ _).alloc (Nat.le_refl _) _⟩
   ·rw[hE]
    rw[hr] at o3
    simp only[show ((0:Nat):Int)=0 from rfl] at o3
    rw[ha]
    clear hr ha
    rw[h]
    have hwm:(x.wt:Int)%4294967296=(x.wt:Int):=by have:=hk.wt;omega
    clear hE h8 h hk hB0
    go_enter Tryz.func186,Tryz.ntmps186
    go_wp2
    go_ret
    exact⟨rfl,(Below.refl _ _).alloc (Nat.le_refl _) _⟩
   ·rw[hE]
    rw[hr] at o3
    simp only[show ((0:Nat):Int)=0 from rfl] at o3
    rw[ha]
    rw[ht]
    clear ht
    clear hr ha
    rw[h]
    have hwm:(x.wt:Int)%4294967296=(x.wt:Int):=by have:=hk.wt;omega
    clear hE h8 h hk hB0
    go_enter Tryz.func186,Tryz.ntmps186
    go_wp2
    go_ret
    exact⟨rfl,(Below.refl _ _).alloc (Nat.le_refl _) _⟩
   ·rw[hE]
    rw[hr] at o3
    simp only[show ((0:Nat):Int)=0 from rfl] at o3
    rw[ha]
    have ht2:((x.sn:Int) == 0)=false:=zo (b:=0) ht
    clear ht
    clear hr ha
    rw[h]
    have hwm:(x.wt:Int)%4294967296=(x.wt:Int):=by have:=hk.wt;omega
    clear hE h8 h hk hB0
    go_enter Tryz.func186,Tryz.ntmps186
    go_wp2
    go_ret
    exact⟨rfl,(Below.refl _ _).alloc (Nat.le_refl _) _⟩
 ·have hB0:=True.intro
  obtain⟨p,q,r,o1,o2,o3,o4⟩:=xg x.code 0 x.win 0 hk.code (by omega) hk.win (by omega)
  simp only[show ((0:Nat):Int)=0 from rfl] at o1 o2 o3
  have E0:r≠0→x.own=false:=λhr=>decide_eq_false λhO=>by
   unfold qc zu at hO
   obtain⟨a1,a2,a3,a4,a5,a6,a7⟩:=hO
   exact hr (o4.2 (by omega))
  have E_dn:x.dn≠0→x.own=false:=λhv=>decide_eq_false λhO=>by
   unfold qc zu at hO
   obtain⟨a1,a2,a3,a4,a5,a6,a7⟩:=hO
   omega
  have E_sn:x.sn≠0→x.own=false:=λhv=>decide_eq_false λhO=>by
   unfold qc zu at hO
   obtain⟨a1,a2,a3,a4,a5,a6,a7⟩:=hO
   omega
  have E2:r=0→x.dn=0→x.sn=0→x.own=true:=λhr hdn hsn=>decide_eq_true (by
   unfold qc zu
   have:=o4.1 hr
   refine⟨λ_=>by omega,λh1=>by omega,λ_=>by omega,λ_=>by omega,λ_=>by omega,λ_=>by omega,λ_=>by omega⟩)
  have hc:(r≠0∧x.own=false)∨(r=0∧x.dn=0∧x.sn=0∧x.own=true)∨(r=0∧x.dn≠0∧x.own=false)∨(r=0∧x.dn=0∧x.sn≠0∧x.own=false):=by
   by_cases h0:r=0
   ·have hx:=True.intro
    by_cases hd:x.dn=0
    ·by_cases ht:x.sn=0
     ·exact(.inr (.inl ⟨h0,hd,ht,E2 h0 hd ht⟩))
     ·exact(.inr (.inr (.inr (⟨h0,hd,ht,E_sn ht⟩))))
    ·exact(.inr (.inr (.inl ⟨h0,hd,E_dn hd⟩)))
   ·exact(.inl ⟨h0,E0 h0⟩)
  clear E0 E2 E_dn E_sn
  clear o4
  rcases hc with ⟨hr,hE⟩|⟨hr,hd,ht,hE⟩|⟨hr,hd,hE⟩|⟨hr,hd,ht,hE⟩
  ·rw[hE]
   have hr2:((r:Int) == 0)=false:=zo (b:=0) hr
   clear hr
   rw[h]
   have hwm:(x.wt:Int)%4294967296=(x.wt:Int):=by have:=hk.wt;omega
   clear hE h8 h hk hB0
   go_enter Tryz.func186,Tryz.ntmps186
   go_wp2
   go_ret
   exact⟨rfl,(Below.refl _ _).alloc (Nat.le_refl _) _⟩
  ·rw[hE]
   rw[hr] at o3
   simp only[show ((0:Nat):Int)=0 from rfl] at o3
   rw[hd]
   clear hd
   rw[ht]
   clear ht
   clear hr
   rw[h]
   have hwm:(x.wt:Int)%4294967296=(x.wt:Int):=by have:=hk.wt;omega
   clear hE h8 h hk hB0
   go_enter Tryz.func186,Tryz.ntmps186
   go_wp2
   go_ret
   exact⟨rfl,(Below.refl _ _).alloc (Nat.le_refl _) _⟩
  ·rw[hE]
   rw[hr] at o3
   simp only[show ((0:Nat):Int)=0 from rfl] at o3
   have hd2:((x.dn:Int) == 0)=false:=zo (b:=0) hd
   clear hd
   clear hr
   rw[h]
   have hwm:(x.wt:Int)%4294967296=(x.wt:Int):=by have:=hk.wt;omega
   clear hE h8 h hk hB0
   go_enter Tryz.func186,Tryz.ntmps186
   go_wp2
   go_ret
   exact⟨rfl,(Below.refl _ _).alloc (Nat.le_refl _) _⟩
  ·rw[hE]
   rw[hr] at o3
   simp only[show ((0:Nat):Int)=0 from rfl] at o3
   rw[hd]
   clear hd
   have ht2:((x.sn:Int) == 0)=false:=zo (b:=0) ht
   clear ht
   clear hr
   rw[h]
   have hwm:(x.wt:Int)%4294967296=(x.wt:Int):=by have:=hk.wt;omega
   clear hE h8 h hk hB0
   go_enter Tryz.func186,Tryz.ntmps186
   go_wp2
   go_ret
   exact⟨rfl,(Below.refl _ _).alloc (Nat.le_refl _) _⟩
 ·have hB0:=True.intro
  obtain⟨p,q,r,o1,o2,o3,o4⟩:=xg 0 x.oth x.win x.wt (by omega) hk.oth hk.win (by have:=hk.wt;omega)
  simp only[show ((0:Nat):Int)=0 from rfl] at o1 o2 o3
  have E0:r≠0→x.own=false:=λhr=>decide_eq_false λhO=>by
   unfold qc zu at hO
   obtain⟨a1,a2,a3,a4,a5,a6,a7⟩:=hO
   exact hr (o4.2 (by omega))
  have E1:x.al=true→x.own=false:=λha=>decide_eq_false λhO=>by
   unfold qc zu at hO
   obtain⟨a1,a2,a3,a4,a5,a6,a7⟩:=hO
   have:=a2 ha
   omega
  have E_dn:x.dn≠0→x.own=false:=λhv=>decide_eq_false λhO=>by
   unfold qc zu at hO
   obtain⟨a1,a2,a3,a4,a5,a6,a7⟩:=hO
   omega
  have E_sn:x.sn≠0→x.own=false:=λhv=>decide_eq_false λhO=>by
   unfold qc zu at hO
   obtain⟨a1,a2,a3,a4,a5,a6,a7⟩:=hO
   omega
  have E2:r=0→x.al=false→x.dn=0→x.sn=0→x.own=true:=λhr ha hdn hsn=>decide_eq_true (by
   unfold qc zu
   have:=o4.1 hr
   refine⟨λ_=>by omega,λh1=>absurd h1 (by rw[ha];simp),λ_=>by omega,λ_=>by omega,λ_=>by omega,λ_=>by omega,λ_=>by omega⟩)
  have hc:(r≠0∧x.own=false)∨(r=0∧x.al=true∧x.own=false)∨(r=0∧x.al=false∧x.dn=0∧x.sn=0∧x.own=true)∨(r=0∧x.al=false∧x.dn≠0∧x.own=false)∨(r=0∧x.al=false∧x.dn=0∧x.sn≠0∧x.own=false):=by
   by_cases h0:r=0
   ·by_cases ha:x.al=true
    ·exact(.inr (.inl ⟨h0,ha,E1 ha⟩))
    ·have ha:x.al=false:=by simpa using ha
     by_cases hd:x.dn=0
     ·by_cases ht:x.sn=0
      ·exact(.inr (.inr (.inl ⟨h0,ha,hd,ht,E2 h0 ha hd ht⟩)))
      ·exact(.inr (.inr (.inr (.inr (⟨h0,ha,hd,ht,E_sn ht⟩)))))
     ·exact(.inr (.inr (.inr (.inl ⟨h0,ha,hd,E_dn hd⟩))))
   ·exact(.inl ⟨h0,E0 h0⟩)
  clear E0 E2 E1 E_dn E_sn
  clear o4
  rcases hc with ⟨hr,hE⟩|⟨hr,ha,hE⟩|⟨hr,ha,hd,ht,hE⟩|⟨hr,ha,hd,hE⟩|⟨hr,ha,hd,ht,hE⟩
  ·rw[hE]
   have hr2:((r:Int) == 0)=false:=zo (b:=0) hr
   clear hr
   rw[h]
   have hwm:(x.wt:Int)%4294967296=(x.wt:Int):=by have:=hk.wt;omega
   clear hE h8 h hk hB0
   go_enter Tryz.func186,Tryz.ntmps186
   go_wp2
   go_ret
   exact⟨rfl,(Below.refl _ _).alloc (Nat.le_refl _) _⟩
  ·rw[hE]
   rw[hr] at o3
   simp only[show ((0:Nat):Int)=0 from rfl] at o3
   rw[ha]
   clear hr ha
   rw[h]
   have hwm:(x.wt:Int)%4294967296=(x.wt:Int):=by have:=hk.wt;omega
   clear hE h8 h hk hB0
   go_enter Tryz.func186,Tryz.ntmps186
   go_wp2
   go_ret
   exact⟨rfl,(Below.refl _ _).alloc (Nat.le_refl _) _⟩
  ·rw[hE]
   rw[hr] at o3
   simp only[show ((0:Nat):Int)=0 from rfl] at o3
   rw[ha]
   rw[hd]
   clear hd
   rw[ht]
   clear ht
   clear hr ha
   rw[h]
   have hwm:(x.wt:Int)%4294967296=(x.wt:Int):=by have:=hk.wt;omega
   clear hE h8 h hk hB0
   go_enter Tryz.func186,Tryz.ntmps186
   go_wp2
   go_ret
   exact⟨rfl,(Below.refl _ _).alloc (Nat.le_refl _) _⟩
  ·rw[hE]
   rw[hr] at o3
   simp only[show ((0:Nat):Int)=0 from rfl] at o3
   rw[ha]
   have hd2:((x.dn:Int) == 0)=false:=zo (b:=0) hd
   clear hd
   clear hr ha
   rw[h]
   have hwm:(x.wt:Int)%4294967296=(x.wt:Int):=by have:=hk.wt;omega
   clear hE h8 h hk hB0
   go_enter Tryz.func186,Tryz.ntmps186
   go_wp2
   go_ret
   exact⟨rfl,(Below.refl _ _).alloc (Nat.le_refl _) _⟩
  ·rw[hE]
   rw[hr] at o3
   simp only[show ((0:Nat):Int)=0 from rfl] at o3
   rw[ha]
   rw[hd]
   clear hd
   have ht2:((x.sn:Int) == 0)=false:=zo (b:=0) ht
   clear ht
   clear hr ha
   rw[h]
   have hwm:(x.wt:Int)%4294967296=(x.wt:Int):=by have:=hk.wt;omega
   clear hE h8 h hk hB0
   go_enter Tryz.func186,Tryz.ntmps186
   go_wp2
   go_ret
   exact⟨rfl,(Below.refl _ _).alloc (Nat.le_refl _) _⟩
 ·have hB0:=True.intro
  obtain⟨p,q,r,o1,o2,o3,o4⟩:=xg x.code x.oth x.win x.wt hk.code hk.oth hk.win (by have:=hk.wt;omega)
  have E0:r≠0→x.own=false:=λhr=>decide_eq_false λhO=>by
   unfold qc zu at hO
   obtain⟨a1,a2,a3,a4,a5,a6,a7⟩:=hO
   exact hr (o4.2 (by omega))
  have E1:x.al=true→x.own=false:=λha=>decide_eq_false λhO=>by
   unfold qc zu at hO
   obtain⟨a1,a2,a3,a4,a5,a6,a7⟩:=hO
   have:=a2 ha
   omega
  have E_dn:x.dn≠0→x.own=false:=λhv=>decide_eq_false λhO=>by
   unfold qc zu at hO
   obtain⟨a1,a2,a3,a4,a5,a6,a7⟩:=hO
   omega
  have E2:r=0→x.al=false→x.dn=0→x.own=true:=λhr ha hdn=>decide_eq_true (by
   unfold qc zu
   have:=o4.1 hr
   refine⟨λ_=>by omega,λh1=>absurd h1 (by rw[ha];simp),λ_=>by omega,λ_=>by omega,λ_=>by omega,λ_=>by omega,λ_=>by omega⟩)
  have hc:(r≠0∧x.own=false)∨(r=0∧x.al=true∧x.own=false)∨(r=0∧x.al=false∧x.dn=0∧x.own=true)∨(r=0∧x.al=false∧x.dn≠0∧x.own=false):=by
   by_cases h0:r=0
   ·by_cases ha:x.al=true
    ·exact(.inr (.inl ⟨h0,ha,E1 ha⟩))
    ·have ha:x.al=false:=by simpa using ha
     by_cases ht:x.dn=0
     ·exact(.inr (.inr (.inl ⟨h0,ha,ht,E2 h0 ha ht⟩)))
     ·exact(.inr (.inr (.inr (⟨h0,ha,ht,E_dn ht⟩))))
   ·exact(.inl ⟨h0,E0 h0⟩)
  clear E0 E2 E1 E_dn
  clear o4
  rcases hc with ⟨hr,hE⟩|⟨hr,ha,hE⟩|⟨hr,ha,ht,hE⟩|⟨hr,ha,ht,hE⟩
  ·rw[hE]
   have hr2:((r:Int) == 0)=false:=zo (b:=0) hr
   clear hr
   rw[h]
   have hwm:(x.wt:Int)%4294967296=(x.wt:Int):=by have:=hk.wt;omega
   clear hE h8 h hk hB0
   go_enter Tryz.func186,Tryz.ntmps186
   go_wp2
   go_ret
   exact⟨rfl,(Below.refl _ _).alloc (Nat.le_refl _) _⟩
  ·rw[hE]
   rw[hr] at o3
   simp only[show ((0:Nat):Int)=0 from rfl] at o3
   rw[ha]
   clear hr ha
   rw[h]
   have hwm:(x.wt:Int)%4294967296=(x.wt:Int):=by have:=hk.wt;omega
   clear hE h8 h hk hB0
   go_enter Tryz.func186,Tryz.ntmps186
   go_wp2
   go_ret
   exact⟨rfl,(Below.refl _ _).alloc (Nat.le_refl _) _⟩
  ·rw[hE]
   rw[hr] at o3
   simp only[show ((0:Nat):Int)=0 from rfl] at o3
   rw[ha]
   rw[ht]
   clear ht
   clear hr ha
   rw[h]
   have hwm:(x.wt:Int)%4294967296=(x.wt:Int):=by have:=hk.wt;omega
   clear hE h8 h hk hB0
   go_enter Tryz.func186,Tryz.ntmps186
   go_wp2
   go_ret
   exact⟨rfl,(Below.refl _ _).alloc (Nat.le_refl _) _⟩
  ·rw[hE]
   rw[hr] at o3
   simp only[show ((0:Nat):Int)=0 from rfl] at o3
   rw[ha]
   have ht2:((x.dn:Int) == 0)=false:=zo (b:=0) ht
   clear ht
   clear hr ha
   rw[h]
   have hwm:(x.wt:Int)%4294967296=(x.wt:Int):=by have:=hk.wt;omega
   clear hE h8 h hk hB0
   go_enter Tryz.func186,Tryz.ntmps186
   go_wp2
   go_ret
   exact⟨rfl,(Below.refl _ _).alloc (Nat.le_refl _) _⟩
 ·have hB0:=True.intro
  obtain⟨p,q,r,o1,o2,o3,o4⟩:=xg x.code 0 x.win x.wt hk.code (by omega) hk.win (by have:=hk.wt;omega)
  simp only[show ((0:Nat):Int)=0 from rfl] at o1 o2 o3
  have E0:r≠0→x.own=false:=λhr=>decide_eq_false λhO=>by
   unfold qc zu at hO
   obtain⟨a1,a2,a3,a4,a5,a6,a7⟩:=hO
   exact hr (o4.2 (by omega))
  have E1:x.al=true→x.own=false:=λha=>decide_eq_false λhO=>by
   unfold qc zu at hO
   obtain⟨a1,a2,a3,a4,a5,a6,a7⟩:=hO
   have:=a2 ha
   omega
  have E_sn:x.sn≠0→x.own=false:=λhv=>decide_eq_false λhO=>by
   unfold qc zu at hO
   obtain⟨a1,a2,a3,a4,a5,a6,a7⟩:=hO
   omega
  have E2:r=0→x.al=false→x.sn=0→x.own=true:=λhr ha hsn=>decide_eq_true (by
   unfold qc zu
   have:=o4.1 hr
   refine⟨λ_=>by omega,λh1=>absurd h1 (by rw[ha];simp),λ_=>by omega,λ_=>by omega,λ_=>by omega,λ_=>by omega,λ_=>by omega⟩)
  have hc:(r≠0∧x.own=false)∨(r=0∧x.al=true∧x.own=false)∨(r=0∧x.al=false∧x.sn=0∧x.own=true)∨(r=0∧x.al=false∧x.sn≠0∧x.own=false):=by
   by_cases h0:r=0
   ·by_cases ha:x.al=true
    ·exact(.inr (.inl ⟨h0,ha,E1 ha⟩))
    ·have ha:x.al=false:=by simpa using ha
     by_cases ht:x.sn=0
     ·exact(.inr (.inr (.inl ⟨h0,ha,ht,E2 h0 ha ht⟩)))
     ·exact(.inr (.inr (.inr (⟨h0,ha,ht,E_sn ht⟩))))
   ·exact(.inl ⟨h0,E0 h0⟩)
  clear E0 E2 E1 E_sn
  clear o4
  rcases hc with ⟨hr,hE⟩|⟨hr,ha,hE⟩|⟨hr,ha,ht,hE⟩|⟨hr,ha,ht,hE⟩
  ·rw[hE]
   have hr2:((r:Int) == 0)=false:=zo (b:=0) hr
   clear hr
   rw[h]
   have hwm:(x.wt:Int)%4294967296=(x.wt:Int):=by have:=hk.wt;omega
   clear hE h8 h hk hB0
   go_enter Tryz.func186,Tryz.ntmps186
   go_wp2
   go_ret
   exact⟨rfl,(Below.refl _ _).alloc (Nat.le_refl _) _⟩
  ·rw[hE]
   rw[hr] at o3
   simp only[show ((0:Nat):Int)=0 from rfl] at o3
   rw[ha]
   clear hr ha
   rw[h]
   have hwm:(x.wt:Int)%4294967296=(x.wt:Int):=by have:=hk.wt;omega
   clear hE h8 h hk hB0
   go_enter Tryz.func186,Tryz.ntmps186
   go_wp2
   go_ret
   exact⟨rfl,(Below.refl _ _).alloc (Nat.le_refl _) _⟩
  ·rw[hE]
   rw[hr] at o3
   simp only[show ((0:Nat):Int)=0 from rfl] at o3
   rw[ha]
   rw[ht]
   clear ht
   clear hr ha
   rw[h]
   have hwm:(x.wt:Int)%4294967296=(x.wt:Int):=by have:=hk.wt;omega
   clear hE h8 h hk hB0
   go_enter Tryz.func186,Tryz.ntmps186
   go_wp2
   go_ret
   exact⟨rfl,(Below.refl _ _).alloc (Nat.le_refl _) _⟩
  ·rw[hE]
   rw[hr] at o3
   simp only[show ((0:Nat):Int)=0 from rfl] at o3
   rw[ha]
   have ht2:((x.sn:Int) == 0)=false:=zo (b:=0) ht
   clear ht
   clear hr ha
   rw[h]
   have hwm:(x.wt:Int)%4294967296=(x.wt:Int):=by have:=hk.wt;omega
   clear hE h8 h hk hB0
   go_enter Tryz.func186,Tryz.ntmps186
   go_wp2
   go_ret
   exact⟨rfl,(Below.refl _ _).alloc (Nat.le_refl _) _⟩
 ·have hB0:=True.intro
  obtain⟨p,q,r,o1,o2,o3,o4⟩:=xg x.code x.oth x.win x.wt hk.code hk.oth hk.win (by have:=hk.wt;omega)
  have E0:r≠0→x.own=false:=λhr=>decide_eq_false λhO=>by
   unfold qc zu at hO
   obtain⟨a1,a2,a3,a4,a5,a6,a7⟩:=hO
   exact hr (o4.2 (by omega))
  have E1:x.al=true→x.own=false:=λha=>decide_eq_false λhO=>by
   unfold qc zu at hO
   obtain⟨a1,a2,a3,a4,a5,a6,a7⟩:=hO
   have:=a2 ha
   omega
  have E_sn:x.sn≠0→x.own=false:=λhv=>decide_eq_false λhO=>by
   unfold qc zu at hO
   obtain⟨a1,a2,a3,a4,a5,a6,a7⟩:=hO
   omega
  have E2:r=0→x.al=false→x.sn=0→x.own=true:=λhr ha hsn=>decide_eq_true (by
   unfold qc zu
   have:=o4.1 hr
   refine⟨λ_=>by omega,λh1=>absurd h1 (by rw[ha];simp),λ_=>by omega,λ_=>by omega,λ_=>by omega,λ_=>by omega,λ_=>by omega⟩)
  have hc:(r≠0∧x.own=false)∨(r=0∧x.al=true∧x.own=false)∨(r=0∧x.al=false∧x.sn=0∧x.own=true)∨(r=0∧x.al=false∧x.sn≠0∧x.own=false):=by
   by_cases h0:r=0
   ·by_cases ha:x.al=true
    ·exact(.inr (.inl ⟨h0,ha,E1 ha⟩))
    ·have ha:x.al=false:=by simpa using ha
     by_cases ht:x.sn=0
     ·exact(.inr (.inr (.inl ⟨h0,ha,ht,E2 h0 ha ht⟩)))
     ·exact(.inr (.inr (.inr (⟨h0,ha,ht,E_sn ht⟩))))
   ·exact(.inl ⟨h0,E0 h0⟩)
  clear E0 E2 E1 E_sn
  clear o4
  rcases hc with ⟨hr,hE⟩|⟨hr,ha,hE⟩|⟨hr,ha,ht,hE⟩|⟨hr,ha,ht,hE⟩
  ·rw[hE]
   have hr2:((r:Int) == 0)=false:=zo (b:=0) hr
   clear hr
   rw[h]
   have hwm:(x.wt:Int)%4294967296=(x.wt:Int):=by have:=hk.wt;omega
   clear hE h8 h hk hB0
   go_enter Tryz.func186,Tryz.ntmps186
   go_wp2
   go_ret
   exact⟨rfl,(Below.refl _ _).alloc (Nat.le_refl _) _⟩
  ·rw[hE]
   rw[hr] at o3
   simp only[show ((0:Nat):Int)=0 from rfl] at o3
   rw[ha]
   clear hr ha
   rw[h]
   have hwm:(x.wt:Int)%4294967296=(x.wt:Int):=by have:=hk.wt;omega
   clear hE h8 h hk hB0
   go_enter Tryz.func186,Tryz.ntmps186
   go_wp2
   go_ret
   exact⟨rfl,(Below.refl _ _).alloc (Nat.le_refl _) _⟩
  ·rw[hE]
   rw[hr] at o3
   simp only[show ((0:Nat):Int)=0 from rfl] at o3
   rw[ha]
   rw[ht]
   clear ht
   clear hr ha
   rw[h]
   have hwm:(x.wt:Int)%4294967296=(x.wt:Int):=by have:=hk.wt;omega
   clear hE h8 h hk hB0
   go_enter Tryz.func186,Tryz.ntmps186
   go_wp2
   go_ret
   exact⟨rfl,(Below.refl _ _).alloc (Nat.le_refl _) _⟩
  ·rw[hE]
   rw[hr] at o3
   simp only[show ((0:Nat):Int)=0 from rfl] at o3
   rw[ha]
   have ht2:((x.sn:Int) == 0)=false:=zo (b:=0) ht
   clear ht
   clear hr ha
   rw[h]
   have hwm:(x.wt:Int)%4294967296=(x.wt:Int):=by have:=hk.wt;omega
   clear hE h8 h hk hB0
   go_enter Tryz.func186,Tryz.ntmps186
   go_wp2
   go_ret
   exact⟨rfl,(Below.refl _ _).alloc (Nat.le_refl _) _⟩
 ·have hB0:=True.intro
  obtain⟨p,q,r,o1,o2,o3,o4⟩:=xg 0 0 x.win x.wt (by omega) (by omega) hk.win (by have:=hk.wt;omega)
  simp only[show ((0:Nat):Int)=0 from rfl] at o1 o2 o3
  have E0:r≠0→x.own=false:=λhr=>decide_eq_false λhO=>by
   unfold qc zu at hO
   obtain⟨a1,a2,a3,a4,a5,a6,a7⟩:=hO
   exact hr (o4.2 (by omega))
  have E1:x.al=true→x.own=false:=λha=>decide_eq_false λhO=>by
   unfold qc zu at hO
   obtain⟨a1,a2,a3,a4,a5,a6,a7⟩:=hO
   have:=a2 ha
   omega
  have E_sn:x.sn≠0→x.own=false:=λhv=>decide_eq_false λhO=>by
   unfold qc zu at hO
   obtain⟨a1,a2,a3,a4,a5,a6,a7⟩:=hO
   omega
  have E2:r=0→x.al=false→x.sn=0→x.own=true:=λhr ha hsn=>decide_eq_true (by
   unfold qc zu
   have:=o4.1 hr
   refine⟨λ_=>by omega,λh1=>absurd h1 (by rw[ha];simp),λ_=>by omega,λ_=>by omega,λ_=>by omega,λ_=>by omega,λ_=>by omega⟩)
  have hc:(r≠0∧x.own=false)∨(r=0∧x.al=true∧x.own=false)∨(r=0∧x.al=false∧x.sn=0∧x.own=true)∨(r=0∧x.al=false∧x.sn≠0∧x.own=false):=by
   by_cases h0:r=0
   ·by_cases ha:x.al=true
    ·exact(.inr (.inl ⟨h0,ha,E1 ha⟩))
    ·have ha:x.al=false:=by simpa using ha
     by_cases ht:x.sn=0
     ·exact(.inr (.inr (.inl ⟨h0,ha,ht,E2 h0 ha ht⟩)))
     ·exact(.inr (.inr (.inr (⟨h0,ha,ht,E_sn ht⟩))))
   ·exact(.inl ⟨h0,E0 h0⟩)
  clear E0 E2 E1 E_sn
  clear o4
  rcases hc with ⟨hr,hE⟩|⟨hr,ha,hE⟩|⟨hr,ha,ht,hE⟩|⟨hr,ha,ht,hE⟩
  ·rw[hE]
   have hr2:((r:Int) == 0)=false:=zo (b:=0) hr
   clear hr
   rw[h]
   have hwm:(x.wt:Int)%4294967296=(x.wt:Int):=by have:=hk.wt;omega
   clear hE h8 h hk hB0
   go_enter Tryz.func186,Tryz.ntmps186
   go_wp2
   go_ret
   exact⟨rfl,(Below.refl _ _).alloc (Nat.le_refl _) _⟩
  ·rw[hE]
   rw[hr] at o3
   simp only[show ((0:Nat):Int)=0 from rfl] at o3
   rw[ha]
   clear hr ha
   rw[h]
   have hwm:(x.wt:Int)%4294967296=(x.wt:Int):=by have:=hk.wt;omega
   clear hE h8 h hk hB0
   go_enter Tryz.func186,Tryz.ntmps186
   go_wp2
   go_ret
   exact⟨rfl,(Below.refl _ _).alloc (Nat.le_refl _) _⟩
  ·rw[hE]
   rw[hr] at o3
   simp only[show ((0:Nat):Int)=0 from rfl] at o3
   rw[ha]
   rw[ht]
   clear ht
   clear hr ha
   rw[h]
   have hwm:(x.wt:Int)%4294967296=(x.wt:Int):=by have:=hk.wt;omega
   clear hE h8 h hk hB0
   go_enter Tryz.func186,Tryz.ntmps186
   go_wp2
   go_ret
   exact⟨rfl,(Below.refl _ _).alloc (Nat.le_refl _) _⟩
  ·rw[hE]
   rw[hr] at o3
   simp only[show ((0:Nat):Int)=0 from rfl] at o3
   rw[ha]
   have ht2:((x.sn:Int) == 0)=false:=zo (b:=0) ht
   clear ht
   clear hr ha
   rw[h]
   have hwm:(x.wt:Int)%4294967296=(x.wt:Int):=by have:=hk.wt;omega
   clear hE h8 h hk hB0
   go_enter Tryz.func186,Tryz.ntmps186
   go_wp2
   go_ret
   exact⟨rfl,(Below.refl _ _).alloc (Nat.le_refl _) _⟩
 ·have hB0:=True.intro
  obtain⟨p,q,r,o1,o2,o3,o4⟩:=xg x.code x.oth 0 x.wt hk.code hk.oth (by omega) (by have:=hk.wt;omega)
  simp only[show ((0:Nat):Int)=0 from rfl] at o1 o2 o3
  have E0:r≠0→x.own=false:=λhr=>decide_eq_false λhO=>by
   unfold qc zu at hO
   obtain⟨a1,a2,a3,a4,a5,a6,a7⟩:=hO
   exact hr (o4.2 (by omega))
  have E1:x.al=true→x.own=false:=λha=>decide_eq_false λhO=>by
   unfold qc zu at hO
   obtain⟨a1,a2,a3,a4,a5,a6,a7⟩:=hO
   have:=a2 ha
   omega
  have E_dn:x.dn≠0→x.own=false:=λhv=>decide_eq_false λhO=>by
   unfold qc zu at hO
   obtain⟨a1,a2,a3,a4,a5,a6,a7⟩:=hO
   omega
  have E_sn:x.sn≠0→x.own=false:=λhv=>decide_eq_false λhO=>by
   unfold qc zu at hO
   obtain⟨a1,a2,a3,a4,a5,a6,a7⟩:=hO
   omega
  have E2:r=0→x.al=false→x.dn=0→x.sn=0→x.own=true:=λhr ha hdn hsn=>decide_eq_true (by
   unfold qc zu
   have:=o4.1 hr
   refine⟨λ_=>by omega,λh1=>absurd h1 (by rw[ha];simp),λ_=>by omega,λ_=>by omega,λ_=>by omega,λ_=>by omega,λ_=>by omega⟩)
  have hc:(r≠0∧x.own=false)∨(r=0∧x.al=true∧x.own=false)∨(r=0∧x.al=false∧x.dn=0∧x.sn=0∧x.own=true)∨(r=0∧x.al=false∧x.dn≠0∧x.own=false)∨(r=0∧x.al=false∧x.dn=0∧x.sn≠0∧x.own=false):=by
   by_cases h0:r=0
   ·by_cases ha:x.al=true
    ·exact(.inr (.inl ⟨h0,ha,E1 ha⟩))
    ·have ha:x.al=false:=by simpa using ha
     by_cases hd:x.dn=0
     ·by_cases ht:x.sn=0
      ·exact(.inr (.inr (.inl ⟨h0,ha,hd,ht,E2 h0 ha hd ht⟩)))
      ·exact(.inr (.inr (.inr (.inr (⟨h0,ha,hd,ht,E_sn ht⟩)))))
     ·exact(.inr (.inr (.inr (.inl ⟨h0,ha,hd,E_dn hd⟩))))
   ·exact(.inl ⟨h0,E0 h0⟩)
  clear E0 E2 E1 E_dn E_sn
  clear o4
  rcases hc with ⟨hr,hE⟩|⟨hr,ha,hE⟩|⟨hr,ha,hd,ht,hE⟩|⟨hr,ha,hd,hE⟩|⟨hr,ha,hd,ht,hE⟩
  ·rw[hE]
   have hr2:((r:Int) == 0)=false:=zo (b:=0) hr
   clear hr
   rw[h]
   have hwm:(x.wt:Int)%4294967296=(x.wt:Int):=by have:=hk.wt;omega
   clear hE h8 h hk hB0
   go_enter Tryz.func186,Tryz.ntmps186
   go_wp2
   go_ret
   exact⟨rfl,(Below.refl _ _).alloc (Nat.le_refl _) _⟩
  ·rw[hE]
   rw[hr] at o3
   simp only[show ((0:Nat):Int)=0 from rfl] at o3
   rw[ha]
   clear hr ha
   rw[h]
   have hwm:(x.wt:Int)%4294967296=(x.wt:Int):=by have:=hk.wt;omega
   clear hE h8 h hk hB0
   go_enter Tryz.func186,Tryz.ntmps186
   go_wp2
   go_ret
   exact⟨rfl,(Below.refl _ _).alloc (Nat.le_refl _) _⟩
  ·rw[hE]
   rw[hr] at o3
   simp only[show ((0:Nat):Int)=0 from rfl] at o3
   rw[ha]
   rw[hd]
   clear hd
   rw[ht]
   clear ht
   clear hr ha
   rw[h]
   have hwm:(x.wt:Int)%4294967296=(x.wt:Int):=by have:=hk.wt;omega
   clear hE h8 h hk hB0
   go_enter Tryz.func186,Tryz.ntmps186
   go_wp2
   go_ret
   exact⟨rfl,(Below.refl _ _).alloc (Nat.le_refl _) _⟩
  ·rw[hE]
   rw[hr] at o3
   simp only[show ((0:Nat):Int)=0 from rfl] at o3
   rw[ha]
   have hd2:((x.dn:Int) == 0)=false:=zo (b:=0) hd
   clear hd
   clear hr ha
   rw[h]
   have hwm:(x.wt:Int)%4294967296=(x.wt:Int):=by have:=hk.wt;omega
   clear hE h8 h hk hB0
   go_enter Tryz.func186,Tryz.ntmps186
   go_wp2
   go_ret
   exact⟨rfl,(Below.refl _ _).alloc (Nat.le_refl _) _⟩
  ·rw[hE]
   rw[hr] at o3
   simp only[show ((0:Nat):Int)=0 from rfl] at o3
   rw[ha]
   rw[hd]
   clear hd
   have ht2:((x.sn:Int) == 0)=false:=zo (b:=0) ht
   clear ht
   clear hr ha
   rw[h]
   have hwm:(x.wt:Int)%4294967296=(x.wt:Int):=by have:=hk.wt;omega
   clear hE h8 h hk hB0
   go_enter Tryz.func186,Tryz.ntmps186
   go_wp2
   go_ret
   exact⟨rfl,(Below.refl _ _).alloc (Nat.le_refl _) _⟩
 ·have hB0:=True.intro
  obtain⟨p,q,r,o1,o2,o3,o4⟩:=xg x.code x.oth x.win x.wt hk.code hk.oth hk.win (by have:=hk.wt;omega)
  have E0:r≠0→x.own=false:=λhr=>decide_eq_false λhO=>by
   unfold qc zu at hO
   obtain⟨a1,a2,a3,a4,a5,a6,a7⟩:=hO
   exact hr (o4.2 (by omega))
  have E1:x.al=true→x.own=false:=λha=>decide_eq_false λhO=>by
   unfold qc zu at hO
   obtain⟨a1,a2,a3,a4,a5,a6,a7⟩:=hO
   have:=a2 ha
   omega
  have E_sn:x.sn≠0→x.own=false:=λhv=>decide_eq_false λhO=>by
   unfold qc zu at hO
   obtain⟨a1,a2,a3,a4,a5,a6,a7⟩:=hO
   omega
  have E2:r=0→x.al=false→x.sn=0→x.own=true:=λhr ha hsn=>decide_eq_true (by
   unfold qc zu
   have:=o4.1 hr
   refine⟨λ_=>by omega,λh1=>absurd h1 (by rw[ha];simp),λ_=>by omega,λ_=>by omega,λ_=>by omega,λ_=>by omega,λ_=>by omega⟩)
  have hc:(r≠0∧x.own=false)∨(r=0∧x.al=true∧x.own=false)∨(r=0∧x.al=false∧x.sn=0∧x.own=true)∨(r=0∧x.al=false∧x.sn≠0∧x.own=false):=by
   by_cases h0:r=0
   ·by_cases ha:x.al=true
    ·exact(.inr (.inl ⟨h0,ha,E1 ha⟩))
    ·have ha:x.al=false:=by simpa using ha
     by_cases ht:x.sn=0
     ·exact(.inr (.inr (.inl ⟨h0,ha,ht,E2 h0 ha ht⟩)))
     ·exact(.inr (.inr (.inr (⟨h0,ha,ht,E_sn ht⟩))))
   ·exact(.inl ⟨h0,E0 h0⟩)
  clear E0 E2 E1 E_sn
  clear o4
  rcases hc with ⟨hr,hE⟩|⟨hr,ha,hE⟩|⟨hr,ha,ht,hE⟩|⟨hr,ha,ht,hE⟩
  ·rw[hE]
   have hr2:((r:Int) == 0)=false:=zo (b:=0) hr
   clear hr
   rw[h]
   have hwm:(x.wt:Int)%4294967296=(x.wt:Int):=by have:=hk.wt;omega
   clear hE h8 h hk hB0
   go_enter Tryz.func186,Tryz.ntmps186
   go_wp2
   go_ret
   exact⟨rfl,(Below.refl _ _).alloc (Nat.le_refl _) _⟩
  ·rw[hE]
   rw[hr] at o3
   simp only[show ((0:Nat):Int)=0 from rfl] at o3
   rw[ha]
   clear hr ha
   rw[h]
   have hwm:(x.wt:Int)%4294967296=(x.wt:Int):=by have:=hk.wt;omega
   clear hE h8 h hk hB0
   go_enter Tryz.func186,Tryz.ntmps186
   go_wp2
   go_ret
   exact⟨rfl,(Below.refl _ _).alloc (Nat.le_refl _) _⟩
  ·rw[hE]
   rw[hr] at o3
   simp only[show ((0:Nat):Int)=0 from rfl] at o3
   rw[ha]
   rw[ht]
   clear ht
   clear hr ha
   rw[h]
   have hwm:(x.wt:Int)%4294967296=(x.wt:Int):=by have:=hk.wt;omega
   clear hE h8 h hk hB0
   go_enter Tryz.func186,Tryz.ntmps186
   go_wp2
   go_ret
   exact⟨rfl,(Below.refl _ _).alloc (Nat.le_refl _) _⟩
  ·rw[hE]
   rw[hr] at o3
   simp only[show ((0:Nat):Int)=0 from rfl] at o3
   rw[ha]
   have ht2:((x.sn:Int) == 0)=false:=zo (b:=0) ht
   clear ht
   clear hr ha
   rw[h]
   have hwm:(x.wt:Int)%4294967296=(x.wt:Int):=by have:=hk.wt;omega
   clear hE h8 h hk hB0
   go_enter Tryz.func186,Tryz.ntmps186
   go_wp2
   go_ret
   exact⟨rfl,(Below.refl _ _).alloc (Nat.le_refl _) _⟩
 ·have hB0:=True.intro
  obtain⟨p,q,r,o1,o2,o3,o4⟩:=xg x.code x.oth x.win x.wt hk.code hk.oth hk.win (by have:=hk.wt;omega)
  have E0:r≠0→x.own=false:=λhr=>decide_eq_false λhO=>by
   unfold qc zu at hO
   obtain⟨a1,a2,a3,a4,a5,a6,a7⟩:=hO
   exact hr (o4.2 (by omega))
  have E1:x.al=true→x.own=false:=λha=>decide_eq_false λhO=>by
   unfold qc zu at hO
   obtain⟨a1,a2,a3,a4,a5,a6,a7⟩:=hO
   have:=a2 ha
   omega
  have E_sn:x.sn≠0→x.own=false:=λhv=>decide_eq_false λhO=>by
   unfold qc zu at hO
   obtain⟨a1,a2,a3,a4,a5,a6,a7⟩:=hO
   omega
  have E2:r=0→x.al=false→x.sn=0→x.own=true:=λhr ha hsn=>decide_eq_true (by
   unfold qc zu
   have:=o4.1 hr
   refine⟨λ_=>by omega,λh1=>absurd h1 (by rw[ha];simp),λ_=>by omega,λ_=>by omega,λ_=>by omega,λ_=>by omega,λ_=>by omega⟩)
  have hc:(r≠0∧x.own=false)∨(r=0∧x.al=true∧x.own=false)∨(r=0∧x.al=false∧x.sn=0∧x.own=true)∨(r=0∧x.al=false∧x.sn≠0∧x.own=false):=by
   by_cases h0:r=0
   ·by_cases ha:x.al=true
    ·exact(.inr (.inl ⟨h0,ha,E1 ha⟩))
    ·have ha:x.al=false:=by simpa using ha
     by_cases ht:x.sn=0
     ·exact(.inr (.inr (.inl ⟨h0,ha,ht,E2 h0 ha ht⟩)))
     ·exact(.inr (.inr (.inr (⟨h0,ha,ht,E_sn ht⟩))))
   ·exact(.inl ⟨h0,E0 h0⟩)
  clear E0 E2 E1 E_sn
  clear o4
  rcases hc with ⟨hr,hE⟩|⟨hr,ha,hE⟩|⟨hr,ha,ht,hE⟩|⟨hr,ha,ht,hE⟩
  ·rw[hE]
   have hr2:((r:Int) == 0)=false:=zo (b:=0) hr
   clear hr
   obtain⟨e0,e1,e2,e3,e4,e5,e6,e7,e8,e9⟩:=Qd h
   have hwm:(x.wt:Int)%4294967296=(x.wt:Int):=by have:=hk.wt;omega
   clear hE h8 h hk hB0
   go_enter Tryz.func186,Tryz.ntmps186
   go_wp2
   go_ret
   exact⟨rfl,(Below.refl _ _).alloc (Nat.le_refl _) _⟩
  ·rw[hE]
   rw[hr] at o3
   simp only[show ((0:Nat):Int)=0 from rfl] at o3
   rw[ha]
   clear hr ha
   obtain⟨e0,e1,e2,e3,e4,e5,e6,e7,e8,e9⟩:=Qd h
   have hwm:(x.wt:Int)%4294967296=(x.wt:Int):=by have:=hk.wt;omega
   clear hE h8 h hk hB0
   go_enter Tryz.func186,Tryz.ntmps186
   go_wp2
   go_ret
   exact⟨rfl,(Below.refl _ _).alloc (Nat.le_refl _) _⟩
  ·rw[hE]
   rw[hr] at o3
   simp only[show ((0:Nat):Int)=0 from rfl] at o3
   rw[ha]
   rw[ht]
   clear ht
   clear hr ha
   obtain⟨e0,e1,e2,e3,e4,e5,e6,e7,e8,e9⟩:=Qd h
   have hwm:(x.wt:Int)%4294967296=(x.wt:Int):=by have:=hk.wt;omega
   clear hE h8 h hk hB0
   go_enter Tryz.func186,Tryz.ntmps186
   go_wp2
   go_ret
   exact⟨rfl,(Below.refl _ _).alloc (Nat.le_refl _) _⟩
  ·rw[hE]
   rw[hr] at o3
   simp only[show ((0:Nat):Int)=0 from rfl] at o3
   rw[ha]
   have ht2:((x.sn:Int) == 0)=false:=zo (b:=0) ht
   clear ht
   clear hr ha
   obtain⟨e0,e1,e2,e3,e4,e5,e6,e7,e8,e9⟩:=Qd h
   have hwm:(x.wt:Int)%4294967296=(x.wt:Int):=by have:=hk.wt;omega
   clear hE h8 h hk hB0
   go_enter Tryz.func186,Tryz.ntmps186
   go_wp2
   go_ret
   exact⟨rfl,(Below.refl _ _).alloc (Nat.le_refl _) _⟩
end
end Go.Proofs.YtooaajnkiokpnaaGreatDoor
