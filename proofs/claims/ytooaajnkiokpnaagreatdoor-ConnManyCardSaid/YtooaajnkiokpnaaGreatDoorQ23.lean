/-
  Part of a proof: the program's Get, by its contract. Conditions: those that each theorem names.
-/
import Derived.Test.YtooaajnkiokpnaaGreatDoorQ01
import Derived.Test.YtooaajnkiokpnaaGreatDoorQ18
import Derived.Test.YtooaajnkiokpnaaGreatDoorQ17
import Derived.Test.YtooaajnkiokpnaaGreatDoorQ22
import Derived.Deep.RegionHeld3
namespace Go.Proofs.YtooaajnkiokpnaaGreatDoor
open Go.RowKit Go.WideShapes
set_option maxHeartbeats 2000000
set_option maxRecDepth 100000
section
open Go.RowKit Go.WideShapes Go.Maps
theorem Yd{P:Program}{ops:Array Oper}{rest:List Oper}{o:Oper}{a:Act}{w:World}{Q:Exit→Act→World→Prop}(hg:o.guard=none)(m x:Operand)(t:TypeId)(hop:o.op=Op.lookup t m x true)
  (mval key v:Value) (hm:a.eval m=mval) (hx:a.eval x=key) (hrun:(Instr.lookup t mval key true).run P w=.ok v w)
  (hK:wpList P ops Q rest (a.put o.dst v) w):wpList P ops Q (o :: rest) a w:=by
 refine wpList_plain hg λK' hK'=>?_
 unfold Oper.wp
 simp[execOp,hop,hm,hx,hrun,Result.andThen]
 exact hK' _ _ hK
theorem znn(w:World)(g:Nat)(n:Int)(t:TypeId)(cs:Array Value)(hg:g=w.heap.size)(h:cs[0]?=some (.int .u8 n):=by rfl):(w.alloc (.cells cs t)).cell? ⟨g,0,none⟩=some (.int .u8 n):=by
 rw[hg];exact Qk w n t cs h
def zyw(o:Option (List UInt8))(e:Ending):Prop:=e=.returned (.tuple #[.string ⟨(o.getD []).toArray⟩,.int .i64 (if o.isSome then 0 else 3)])
theorem znf:(Tryz.prog.info? 300).map (λi=>(i.zero,i.size))=some (some (.agg #[.int .u32 0,.int .i64 0]),2):=by kernel_rfl
theorem zn8:((val []%4294967296:Nat):Int)=0:=by simp[val]
def Zz(p:List Bool):Array Value:=#[.int .u32 ((val p%4294967296:Nat):Int),.int .i64 (p.length:Int)]
theorem zev:Zz []=#[.int .u32 0,.int .i64 0]:=by
 unfold Zz
 rw[zn8]
 rfl
theorem zc0(p:List Bool)(b:Bool)(n m:Nat)(hn:n=val (p++[b])%4294967296)(hm:m=p.length):((Zz p).setIfInBounds 0 (.int .u32 (n:Int))).setIfInBounds 1 (.int .i64 ((m:Int)+1))=Zz (p++[b]):=by
 subst hn hm
 simp[Zz]
theorem zcb{w:World}{g:Nat}{p:List Bool}(h:Row w g 300 (Zz p)):∃v0 v1,w.cell? ⟨g,0,none⟩=some v0∧w.cell? ⟨g,1,none⟩=some v1∧w.frozen? ⟨g,0,none⟩=false∧w.frozen? ⟨g,1,none⟩=false:=
 ⟨_,_,h.cell rfl,h.cell rfl,h.thawed 0,h.thawed 1⟩
theorem zl4(p:List Bool):((Zz p).setIfInBounds 0 (.int .u32 0)).setIfInBounds 1 (.int .i64 0)=Zz []:=by
 rw[zev]
 simp[Zz]
theorem zxh(A:Option Addr)(c:Nat)(l:List UInt8)(hl:l.length≤12000)(w:World)(hr:RdB w w.heap.size A l) :
  Calls Tryz.prog 235 #[.slice A l.length c] w λe w'=>zyw (Qn l) e∧Below w.heap.size w w':=by
 obtain⟨i0,hi0,hz0,hz1,hz2⟩:=jw yp
 obtain⟨hzc,_⟩:=zero_of_info znf
 obtain⟨F,hF⟩:∃F,F=Jg (qb l) ([],[]):=⟨_,rfl⟩
 have hD:Qn l=za1 F:=by unfold Qn;rw[←hF]
 have HF:=z2w hF
 have HD:=z2w hD
 clear hF hD
 generalize Qn l=D at HD
 have HRd:=z2w hr
 clear hr
 go_enter Tryz.func235,Tryz.ntmps235
 go_wp2_with fail
 refine(zy0 _).mono ?_
 rintro e w1 ⟨g,rfl,hg,hM,hb1⟩
 have hgl:=hM.lt
 have hs1:=hb1.size
 have HM:=z2w (hM.alloc (.cells #[.int .u32 0,.int .i64 0] 300))
 have HB:=z2w (hb1.alloc hs1 (.cells #[.int .u32 0,.int .i64 0] 300))
 have hR0:Row (w1.alloc (.cells #[.int .u32 0,.int .i64 0] 300)) w1.heap.size 300 (Zz []):=by rw[zev];exact Row.new w1 _ _
 have HR:=z2w hR0
 clear hR0
 clear hM hb1
 go_wp2_with fail
 go_loopw [5,16] (λv i wr=>∃(k:Nat) (A2:Option Addr) (c2:Nat) (out:List UInt8) (p:List Bool),k≤l.length∧i=.int .i64 k∧v=.slice A2 out.length c2∧out.length≤8*k∧p.length≤8*k∧Hid (Jg (qb (l.drop k)) (out,p)=F)∧Hid (OwB wr (w1.heap.size+1) 5 (.slice A2 out.length c2) out)∧Hid (Row wr w1.heap.size 300 (Zz p))∧Hid (MapAt wr g 257)∧Hid (Below w.heap.size w wr)∧w1.heap.size<wr.heap.size)
  (λ_ i _=>l.length-(intOf i).toNat)
 case atStart=>exact⟨0,none,0,[],[],Nat.zero_le _,rfl,rfl,Nat.zero_le _,Nat.zero_le _,HF.out.symm,OwB.nil,HR,HM,HB,by simp⟩
 case round=>
  obtain⟨k,A2,c2,out,p,hk,rfl,rfl,hol,hpl,hE,hO,hR,hM,hB,hz⟩:=hrel
  by_cases hlt:k<l.length
  ·obtain⟨ga,oa,rfl,hga,hcell⟩:=HRd.out (by rintro rfl;simp at hlt)
   have hc0:wr.cell? ⟨ga,oa+k,none⟩=some (.int .u8 (l[k].toNat:Int)):=(hB.out.cell (p:=⟨ga,oa+k,none⟩) hga).trans (hcell k hlt)
   have hE2:Hid (Jg ((qr l[k]).drop 0++qb (l.drop (k+1))) (out,p)=F):=by
    show _=_
    have e:qb (l.drop k)=qr l[k]++qb (l.drop (k+1)):=by
     rw[List.drop_eq_getElem_cons hlt];rfl
    rw[←hE.out,e,List.drop_zero]
   have Hcell:=z2w hcell
   clear hcell hE
   generalize l[k]=x at hc0 hE2
   obtain⟨rest,hrest⟩:∃rest,qb (l.drop (k+1))=rest:=⟨_,rfl⟩
   rw[hrest] at hE2
   have hrest:=z2w hrest
   go_wp2_with fail
   go_loopw [5,20] (λv j wr=>∃(j':Nat) (A2:Option Addr) (c2:Nat) (out:List UInt8) (p:List Bool),j'≤8∧j=.int .i64 j'∧v=.slice A2 out.length c2∧out.length≤8*k+j'∧p.length≤8*k+j'∧Hid (Jg ((qr x).drop j'++rest) (out,p)=F)∧Hid (OwB wr (w1.heap.size+1) 5 (.slice A2 out.length c2) out)∧Hid (Row wr w1.heap.size 300 (Zz p))∧Hid (MapAt wr g 257)∧Hid (Below w.heap.size w wr)∧w1.heap.size<wr.heap.size)
    (λ_ j _=>8-(intOf j).toNat)
   case atStart=>exact⟨0,A2,c2,out,p,by omega,rfl,rfl,hol,hpl,hE2,hO,hR,hM,hB,hz⟩
   case round=>
    clear hE2 hO hR hM hB hz hol hpl
    obtain⟨j',A2,c2,out,p,hj,rfl,rfl,hol,hpl,hE2,hO,hR,hM,hB,hz⟩:=hrel
    by_cases hj8:j'<8
    ·obtain⟨e,he⟩:∃e:Nat,j'+e=7:=⟨7-j',by omega⟩
     have hei:(7:Int)-j'=(e:Int):=by omega
     have hjb:j'<(qr x).length:=by rw[yz];exact hj8
     have hbit:=zqs (x:=x) he hjb
     have hE3:Hid ((J6 (out,p) ((qr x)[j']'hjb)).bind (Jg ((qr x).drop (j'+1)++rest))=F):=by
      show _=_
      rw[←hE2.out,List.drop_eq_getElem_cons hjb]
      rfl
     generalize (qr x)[j']'hjb=b at hbit hE3
     have hnum:=zrv p b
     have hp32:val p%4294967296<4294967296:=Nat.mod_lt _ (by omega)
     have hc1:wr.cell? ⟨w1.heap.size,0,none⟩=some (.int .u32 ((val p%4294967296:Nat):Int)):=hR.out.cell rfl
     have hc2:wr.cell? ⟨w1.heap.size,1,none⟩=some (.int .i64 (p.length:Int)):=hR.out.cell rfl
     have hf1:=hR.out.thawed 0
     have hf2:=hR.out.thawed 1
     have hq32:val (p++[b])%4294967296<4294967296:=Nat.mod_lt _ (by omega)
     have hqn:Hid (∀n:Nat,n=val (p++[b])%4294967296→Jv (p++[b])=none→∀i,i<257→¬(cd i=n∧ln i=p.length+1)):=by
      rintro n rfl hno i hi ⟨h1,h2⟩
      refine zlz hno i hi (zdp ?_ ?_)
      ·rw[Xz,h2];simp
      ·have h30:=(J1 i hi).2
       have hlt:=Q5 (p++[b])
       have hpw:2 ^ (p++[b]).length≤2 ^ 30:=Nat.pow_le_pow_right (by omega) (by simp;omega)
       rw[Nat.mod_eq_of_lt (by omega)] at h1
       rw[Vd hi,h1]
     have hqy:Hid (∀i,Jv (p++[b])=some i→i<257∧cd i=val (p++[b])%4294967296∧ln i=p.length+1):=by
      intro i hi
      obtain⟨h1,h2⟩:=zcm hi
      refine⟨h1,?_,by rw[←Xz,h2];simp⟩
      rw[←h2,Vd h1,Nat.mod_eq_of_lt (J0 h1)]
     obtain⟨n',hn'⟩:∃n',n'=val (p++[b])%4294967296:=⟨_,rfl⟩
     obtain⟨n,hn⟩:∃n,n=val p%4294967296:=⟨_,rfl⟩
     obtain⟨m,hm⟩:∃m,m=p.length:=⟨_,rfl⟩
     rw[←hn',←hn] at hnum
     rw[←hn'] at hq32 hqy
     rw[←hn] at hc1 hp32
     rw[←hm] at hc2 hqn hqy
     have hmi:(m:Int)+1=((m+1:Nat):Int):=rfl
     have hpl':m≤8*k+j':=by omega
     have hbb:b.toNat<256:=by cases b<;>decide
     obtain⟨bn,hbn⟩:∃bn,bn=b.toNat:=⟨_,rfl⟩
     rw[←hbn] at hbit hnum hbb
     rw[IntKind.wrap_u32] at hnum
     have HNs:=z2w hn
     have HNn:=z2w hn'
     have HMs:=z2w hm
     have Hbn:=z2w hbn
     clear hE2 hn hn' hm hbn hpl hmi
     cases hlk:Jv (p++[b]) with
     |none=>
      have hno:=hqn.out n' HNn.out hlk
      have hE4:Hid (Jg ((qr x).drop (j'+1)++rest) (out,p++[b])=F):=by
       show _=_
       rw[←hE3.out,zeb hlk];rfl
      have Hno:=z2w hno
      have hlk':=z2w hlk
      clear hno hlk hE3 hqn hqy
      go_wp2_with (at_lookup;go_loud (refine Yd rfl _ _ _ rfl _ _ _ rfl rfl (zvd (x:=n') (n:=m+1) ((hM.out.setCell (by simp;omega) _).setCell (by simp;omega) _) (by omega) (by omega) Hno.out) ?_))
      go_roundw
      case rel=>
       refine⟨j'+1,A2,c2,out,p++[b],by omega,by go_num,rfl,by omega,by have:=HMs.out;simp;omega,hE4,?_,?_,?_,?_,by simpa using hz⟩
       ·exact(hO.out.setCell (by simp) _).setCell (by simp) _
       ·have:=(hR.out.stored 0 (.int .u32 (n':Int))).stored 1 (.int .i64 ((m:Int)+1))
        rw[zc0 p b n' m HNn.out HMs.out] at this
        exact this
       ·exact(hM.out.setCell (by simp;omega) _).setCell (by simp;omega) _
       ·exact(hB.out.setCell (by simp;omega) _).setCell (by simp;omega) _
      case measure=>simp[intOf];omega
     |some i=>
      obtain⟨hi,h1,h2⟩:=hqy.out i hlk
      have hrun:Hid (∀W,MapAt W g 257→(Instr.lookup 318 (.map (some g)) (.agg #[.int .u32 (n':Int),.int .i64 ((m+1:Nat):Int)]) true).run Tryz.prog W=.ok (.tuple #[.int .i64 (i:Int),.bool true]) W):=λW h=>by
       have:=ztl h hi
       rw[h1,h2] at this
       exact this
      clear h1 h2
      by_cases h256:i=256
      ·subst h256
       have hF0:F=none:=by rw[←hE3.out,zhu hlk];rfl
       have hD0:D=none:=by rw[HD.out,hF0];rfl
       subst hD0
       clear hF0 hlk hE3 hqn hqy
       go_wp2_with (at_lookup;go_loud (refine Yd rfl _ _ _ rfl _ _ (.tuple #[.int .i64 256,.bool true]) rfl rfl (hrun.out _ ((hM.out.setCell (by simp;omega) _).setCell (by simp;omega) _)) ?_))
       go_ret2
       exact⟨rfl,(hB.out.setCell (by simp;omega) _).setCell (by simp;omega) _⟩
      ·have hE4:Hid (Jg ((qr x).drop (j'+1)++rest) (out++[UInt8.ofNat i],[])=F):=by
        show _=_
        rw[←hE3.out,zee hlk h256];rfl
       have hne:((i:Int) == 256)=false:=by rw[beq_eq_false_iff_ne];omega
       have hi256:i<256:=by omega
       have hw8:IntKind.u8.wrap (i:Int)=(i:Int):=by rw[IntKind.wrap_u8'];omega
       clear hlk hE3 hqn hqy h256
       have hO2:=z2w ((hO.out.setCell (a:=⟨w1.heap.size,0,none⟩) (by simp) (.int .u32 (n':Int))).setCell (a:=⟨w1.heap.size,1,none⟩) (by simp) (.int .i64 ((m:Int)+1)))
       have hM2:=z2w ((hM.out.setCell (a:=⟨w1.heap.size,0,none⟩) (by simp;omega) (.int .u32 (n':Int))).setCell (a:=⟨w1.heap.size,1,none⟩) (by simp;omega) (.int .i64 ((m:Int)+1)))
       have hB2:=z2w ((hB.out.setCell (p:=⟨w1.heap.size,0,none⟩) (by simp;omega) (.int .u32 (n':Int))).setCell (p:=⟨w1.heap.size,1,none⟩) (by simp;omega) (.int .i64 ((m:Int)+1)))
       have hR2:Hid (Row ((wr.setCell ⟨w1.heap.size,0,none⟩ (.int .u32 (n':Int))).setCell ⟨w1.heap.size,1,none⟩ (.int .i64 ((m:Int)+1))) w1.heap.size 300 (Zz (p++[b]))):=by
        have:=(hR.out.stored 0 (.int .u32 (n':Int))).stored 1 (.int .i64 ((m:Int)+1))
        rw[zc0 p b n' m HNn.out HMs.out] at this
        exact this
       go_wp2_with (first
        |(at_lookup;go_loud (refine Yd rfl _ _ _ rfl _ _ (.tuple #[.int .i64 (i:Int),.bool true]) rfl rfl (hrun.out _ ((hM.out.setCell (by simp;omega) _).setCell (by simp;omega) _)) ?_))
        |(at_builtin;go_loud (refine yy rfl (.tmp 48) (.tmp 51) _ rfl (w1.heap.size+1) 5 i0 Tryz.underlying22 hi0 hz0 hz1 hz2 _ out rfl (World.ownsRow.alloc hO2.out _) wr.heap.size _ _ rfl (znn _ _ _ _ _ (by simp)) (by omega) (by omega) (by omega) (by simp;omega) ?_;intro A3 c3 L3 w3 hL3 ho3 hb3;have hR3:=hR2.out.below (((Below.refl _ _).alloc (by simp;omega) _).trans hb3) (Nat.lt_succ_self _);obtain⟨v0,v1,k0,k1,k2,k3⟩:=zcb hR3;have HR3:=z2w hR3;clear hR3)))
       have hsw:wr.heap.size+1≤w3.heap.size:=by have:=hb3.size;simp at this;omega
       have hLe:L3=out++[UInt8.ofNat i]:=by rw[hL3.out];simp
       go_roundw
       case rel=>
        refine⟨j'+1,A3,c3,L3,[],by omega,by go_num,rfl,by rw[hLe];simp;omega,by simp,by rw[hLe];exact hE4,?_,?_,?_,?_,by simp;omega⟩
        ·exact(ho3.setCell (by simp) _).setCell (by simp) _
        ·have:=(HR3.out.stored 0 (.int .u32 0)).stored 1 (.int .i64 0)
         rw[zl4] at this
         exact this
        ·exact(((hM2.out.alloc _).below hb3 (by omega)).setCell (by simp;omega) _).setCell (by simp;omega) _
        ·exact((hB2.out.trans (((Below.refl _ _).alloc (by simp;omega) _).trans (hb3.mono (by omega)))).setCell (by simp;omega) _).setCell (by simp;omega) _
       case measure=>simp[intOf];omega
    ·obtain rfl:j'=8:=by omega
     have hE5:Hid (Jg rest (out,p)=F):=by
      have:=hE2.out
      rw[List.drop_of_length_le (by rw[yz];omega),List.nil_append] at this
      exact this
     clear hE2
     go_wp2_with fail
     go_roundw
     case rel=>exact⟨k+1,A2,c2,out,p,by omega,by go_num,rfl,by omega,by omega,by rw[←hrest.out] at hE5;exact hE5,hO,hR,hM,hB,hz⟩
     case measure=>simp[intOf];omega
  ·obtain rfl:k=l.length:=by omega
   have hFe:F=some (out,p):=by
    rw[←hE.out,List.drop_of_length_le (Nat.le_refl _)];rfl
   obtain⟨v0,v1,k0,k1,_,_⟩:=zcb hR.out
   have hc1:wr.cell? ⟨w1.heap.size,0,none⟩=some (.int .u32 ((val p%4294967296:Nat):Int)):=hR.out.cell rfl
   have hc2:wr.cell? ⟨w1.heap.size,1,none⟩=some (.int .i64 (p.length:Int)):=hR.out.cell rfl
   clear k0 k1 hE
   obtain⟨A3,c3,e1,_,_,hrd⟩:=hO.out.shape
   injection e1 with e1 _ e3
   subst e1 e3
   by_cases h8:8≤p.length
   ·have hD0:D=none:=by rw[HD.out,hFe];simp[za1];omega
    subst hD0
    have h8d:decide ((8:Int)≤(p.length:Int))=true:=by simp;omega
    clear hFe
    go_wp2_with fail
    go_quiet (fail)
    go_wp2_with fail
    go_ret2
    exact⟨rfl,qu hB.out _⟩
   ·have hone:=ze7 p.length (by omega)
    have h8d:decide ((8:Int)≤(p.length:Int))=false:=by simp;omega
    have hvl:=Q5 p
    have hpw:2 ^ p.length≤2 ^ 8:=Nat.pow_le_pow_right (by omega) (by omega)
    have hoi:=zs8 (p:=p)
    rw[Nat.mod_eq_of_lt (by omega)] at hc1
    obtain⟨o,hoe⟩:∃o,o=2 ^ p.length-1:=⟨_,rfl⟩
    rw[←hoe] at hone hoi
    have hone2:∀W:World,Calls Tryz.prog 233 #[.int .i64 (p.length:Int)] W λe w'=>e=.returned (.int .u32 (o:Int))∧w'=W:=λW=>(hone W).mono λe w' h=>⟨h.1,h.2.symm⟩
    have hpl8:p.length<8:=by omega
    obtain⟨m,hm⟩:∃m,m=p.length:=⟨_,rfl⟩
    obtain⟨n,hn⟩:∃n,n=val p:=⟨_,rfl⟩
    rw[←hn] at hc1 hoi
    rw[←hm] at hc2 hone2 h8d
    have HFe:=z2w hFe
    have Hoi:=z2w hoi
    clear hone hvl hpw hoe hFe hoi hn
    by_cases hno:n=o
    ·have hD1:D=some out:=by
      rw[HD.out,HFe.out]
      simp only[za1]
      rw[if_pos ⟨hpl8,Hoi.out.2 hno⟩]
     subst hD1
     subst hno
     have htx:∀q,(convert 22 9 (.slice A2 out.length c2)).run Tryz.prog (wr.drewN q)=.ok (.string ⟨out.toArray⟩) (wr.drewN q):=λq=>y0 Tryz.underlying22 Tryz.underlying5 Tryz.underlying9 (hrd.keep λ_ _=>rfl)
     clear hm hpl8 hrd
     go_wp2_with fail
     go_quiet ((go_at_call 233;exact Calls.quiet_of_same (hone2 _)))
     go_wp2_with fail
     go_ret2
     exact⟨rfl,qu hB.out _⟩
    ·have hD1:D=none:=by
      rw[HD.out,HFe.out]
      simp only[za1]
      rw[if_neg (λh=>hno (Hoi.out.1 h.2))]
     subst hD1
     have hne1:((n:Int) != (o:Int))=true:=by rw[bne_iff_ne];omega
     have hne2:((n:Int) == (o:Int))=false:=by rw[beq_eq_false_iff_ne];omega
     clear hm hpl8 hrd hno
     go_wp2_with fail
     go_quiet ((go_at_call 233;exact Calls.quiet_of_same (hone2 _)))
     go_wp2_with fail
     go_ret2
     exact⟨rfl,qu hB.out _⟩
end
section
theorem Nx.not{w:World}{v v':Value}(h:Nx w v v'){g:Nat}(hg:g<w.heap.size)(hn:¬ob v g):¬ob v' g:=λe=>by
 rcases h.own e with h1|h1
 ·exact hn h1
 ·omega
theorem Bo.lt{w:World}{base:Nat}{e:TypeId}{v:Value}{l:List UInt8}(h:Bo w base e v l){g:Nat}(hg:ob v g):base≤g∧g<w.heap.size:=OwS.lt h g hg
structure En(w:World)(base ge g:Nat)(v:Value)(L:List Fd)(M:Nat)(lim:Bool)(low:Nat):Prop where
 t:Tb w base g v L M
 e:Row w ge 154 #[pt g,.bool lim,.int .u32 (low:Int)]
 ne:ge≠g
 nv:¬ob v ge
 lo:base≤ge
theorem zx6{a b:List UInt8}{R:List Fd}:Qp a b R≤61+R.length:=by
 have h1:j9 a b≤61:=by
  unfold j9
  have:=Qh (p:=isB a b) 61
  have:=Qh (p:=isN a) 61
  split<;>omega
 have h2:=Qh (p:=Zh a R) R.length
 have h3:=Qh (p:=Zg a b R) R.length
 unfold Qp
 repeat (first|omega|split)
theorem zx9{L:List Fd}{f:Fd}:nOf L f≤61+L.length:=by
 have:=zx6 (a:=f.nm) (b:=f.vl) (R:=L.reverse)
 unfold nOf
 simpa using this
attribute [local irreducible] tot shr sz first j9 Qm isN isB nmL vlL tab named Qp Jn Zg Zh Qi Ja yw Z9 Zf nOf hOf
theorem Vo{k n base:Nat}{v:Value}{l:List UInt8}{f:Fd}{w:World}(hk:isKind k)(hn:n≤268435456)(hf1:f.nm.length≤9000)(hf2:f.vl.length≤9000)(hO:Bo w base 5 v l)(hbase:base≤w.heap.size)(hl:l.length≤274877906944) :
  Calls Tryz.prog 145 #[v,.int .u8 (k:Int),.int .i64 (n:Int),fv f] w (vy w base v (l++Jh k n f)):=by
 have hp1:∀{bs:Nat} {u:Value} {m:List UInt8} {W:World},Bo W bs 5 u m→bs≤W.heap.size→m.length≤549755813888→Calls Tryz.prog 181 #[u,tx f.nm] W (vy W bs u (m++Qi f.nm)):=λa b c=>zam hf1 a b c
 have hp2:∀{bs:Nat} {u:Value} {m:List UInt8} {W:World},Bo W bs 5 u m→bs≤W.heap.size→m.length≤549755813888→Calls Tryz.prog 181 #[u,tx f.vl] W (vy W bs u (m++Qi f.vl)):=λa b c=>zam hf2 a b c
 have hx1:=zdd f.nm
 have hnl:=Jm k n
 have hnot:¬ob v w.heap.size:=λe=>by have:=(hO.lt e).2;omega
 have HO0:=z2w (hO.below ((Below.refl _ _).alloc (Nat.le_refl _) (.cells #[tx f.nm,tx f.vl,.bool f.nv] 57)))
 have HR0:=z2w (Row.new w 57 #[tx f.nm,tx f.vl,.bool f.nv])
 have HF0:Hid (Fs (ob v) w (w.alloc (.cells #[tx f.nm,tx f.vl,.bool f.nv] 57))):=(Fs.refl _ w).alloc _
 have hs0:w.heap.size<(w.alloc (.cells #[tx f.nm,tx f.vl,.bool f.nv] 57)).heap.size:=by simp
 obtain⟨Z,hZ⟩:∃Z,Z=Jh k n f:=⟨_,rfl⟩
 rw[←hZ]
 unfold Jh at hZ
 unfold fv tx at *
 clear hO
 generalize f.nm=a at *
 generalize f.vl=b at *
 generalize f.nv=nv at *
 generalize hSa:Qi a=Sa at *
 generalize hSb:Qi b=Sb at *
 clear hSa hSb
 have HZ:=z2w hZ
 clear hZ
 go_enter Tryz.func145,Tryz.ntmps145
 go_wp2_with fail
 generalize w.alloc (.cells #[.string ⟨a.toArray⟩,.string ⟨b.toArray⟩,.bool nv] 57)=w0 at *
 refine(y9 hk hn HO0.out (by omega) (by omega)).mono ?_
 rintro e w1 ⟨v1,rfl,hO1,hF1,hN1⟩
 have HR1:=z2w (hF1.row hnot HR0.out)
 have HF1:=z2w (HF0.out.trans hF1 λ_ _ h=>h)
 have HN1:=z2w ((Nx.refl w v).trans hN1 HF0.out.size)
 have HO1:=z2w hO1
 have hnot1:=HN1.out
 have hn1:¬ob v1 w.heap.size:=hN1.not hs0 hnot
 have hs1:w.heap.size<w1.heap.size:=by have:=hF1.size;omega
 have c0:=HR1.out.cell (j:=0) rfl
 have c1:=HR1.out.cell (j:=1) rfl
 clear hF1 hN1 hO1 HR0 HF0 HO0 hnot1 hnot
 by_cases hn0:n=0
 ·subst hn0
  go_wp2_with fail
  refine(hp1 HO1.out (by omega) (by rw[List.length_append];omega)).mono ?_
  rintro e w2 ⟨v2,rfl,hO2,hF2,hN2⟩
  have HR2:=z2w (hF2.row hn1 HR1.out)
  have HF2:=z2w (HF1.out.next HN1.out hF2)
  have HN2:=z2w (HN1.out.trans hN2 HF1.out.size)
  have HO2:=z2w hO2
  have hs2:w.heap.size<w2.heap.size:=by have:=hF2.size;omega
  have c1:=HR2.out.cell (j:=1) rfl
  clear hF2 hN2 hO2 HR1 HF1 HN1 HO1 c0
  go_wp2_with fail
  refine(hp2 HO2.out (by omega) (by rw[List.length_append,List.length_append];omega)).mono ?_
  rintro e w3 ⟨v3,rfl,hO3,hF3,hN3⟩
  have HF3:=z2w (HF2.out.next HN2.out hF3)
  have HN3:=z2w (HN2.out.trans hN3 HF2.out.size)
  have HO3:=z2w hO3
  clear hF3 hN3 hO3 HR2 HF2 HN2 HO2
  go_wp2_with fail
  go_ret
  refine⟨v3,rfl,?_,HF3.out,HN3.out⟩
  have:=HO3.out
  rw[HZ.out]
  simpa using this
 ·have hz:((n:Int) == 0)=false:=by rw[beq_eq_false_iff_ne];omega
  go_wp2_with fail
  refine(hp2 HO1.out (by omega) (by rw[List.length_append];omega)).mono ?_
  rintro e w3 ⟨v3,rfl,hO3,hF3,hN3⟩
  have HF3:=z2w (HF1.out.next HN1.out hF3)
  have HN3:=z2w (HN1.out.trans hN3 HF1.out.size)
  have HO3:=z2w hO3
  clear hF3 hN3 hO3 HR1 HF1 HN1 HO1
  go_wp2_with fail
  go_ret
  refine⟨v3,rfl,?_,HF3.out,HN3.out⟩
  have:=HO3.out
  rw[HZ.out]
  simpa [hn0] using this
end
section
def zln(k1 k2 k3:IntKind)(r:Nat × Nat × Nat)(e:Ending):Prop:=e=.returned (.tuple #[.int k1 (r.1:Int),.int k2 (r.2.1:Int),.int k3 (r.2.2:Int)])
theorem zvh(l:List UInt8):∀(i acc:Nat),i≤4→acc<128 ^ i→(qs i acc l).1<268435456∧(qs i acc l).2.1≤4:=by
 induction l with
 |nil=>intro i acc _ _;simp[qs]
 |cons b l ih=>
  intro i acc hi ha
  by_cases h4:i=4
  ·subst h4;rw[zfa];simp
  ·have hs:=zei (n:=b.toNat) ha (by omega)
   have hb:=zf6 (n:=b.toNat) (j:=i) (by omega)
   by_cases hl:b.toNat<128
   ·rw[zeo h4 _ hl]
    exact⟨by show _<_;omega,by show i+1≤4;omega⟩
   ·rw[ze5 h4 _ hl]
    exact ih (i+1) _ (by omega) hs
theorem z2t(k:Int)(hno:¬(1≤k∧k≤8))(A:Option Addr)(n c:Nat)(w:World) :
  Calls Tryz.prog 220 #[.slice A n c,.int .i64 k] w λe w'=>zln .u32 .i64 .i64 (0,0,1) e∧w=w':=by
 go_enter Tryz.func220,Tryz.ntmps220
 go_wp2_with (go_at_call 210;refine(z0j _ _ hno).mono ?_;rintro e w' ⟨rfl,rfl⟩)
 go_ret3
 exact⟨rfl,rfl⟩
theorem zsl(k:Nat)(h1:1≤k)(h8:k≤8)(A:Option Addr)(c:Nat)(l:List UInt8)(hl:l.length≤65536)(hcap:l.length≤c)(w:World)(B:Nat)(hr:RdB w B A l) :
  Calls Tryz.prog 220 #[.slice A l.length c,.int .i64 k] w λe w'=>zln .u32 .i64 .i64 (zs k l) e∧w=w':=by
 obtain⟨i0,hi0,hz0,hz1,hz2⟩:=jw yp
 cases l with
 |nil=>
  go_enter Tryz.func220,Tryz.ntmps220
  go_wp2_with (go_at_call 210;refine(Xk _ _ (by omega) (by omega)).mono ?_;rintro e w' ⟨rfl,rfl⟩)
  go_ret3
  exact⟨rfl,rfl⟩
 |cons b l=>
  obtain⟨g,o,rfl,hg,hc⟩:=hr (by simp)
  have hc0:w.cell? ⟨g,o,none⟩=some (.int .u8 (b.toNat:Int)):=hc 0 (by simp)
  obtain⟨A',hcut,hr'⟩:=y6 (P:=Tryz.prog) Tryz.underlying22 hi0 hz1 hr hcap (k:=1) (by simp)
  simp only[List.length_cons] at hcap hl
  have hcut':∀W:World,(Instr.slice 22 (.slice (some ⟨g,o,none⟩) (l.length+1) c) (some (.int .i64 1)) none none).run Tryz.prog W=.ok (.slice A' l.length (c-1)) W:=hcut
  have hrest:=zs3 A' (c-1) l (by omega) w B (by simpa using hr')
  have hb:=b.toNat_lt
  have hp:=Yq h1 h8
  have hone:=zf1 k
  have hand:=zms h1 h8 (b:=b.toNat) (by omega)
  obtain⟨lo,hlo⟩:∃lo,lo=b.toNat%2 ^ k:=⟨_,rfl⟩
  rw[←hlo] at hand
  have hlob:lo≤2 ^ k-1:=by
   have:=Nat.mod_lt b.toNat (show 2 ^ k > 0 by omega)
   omega
  generalize hG:qs 0 0 l=G at hrest
  obtain⟨x,y,z⟩:=G
  have hE:zs k (b :: l)=if lo<2 ^ k-1 then (lo,1,0) else if z≠0 then (0,0,z) else if 268435456-(2 ^ k-1)<x then (0,0,4) else (2 ^ k-1+x,1+y,0):=by
   simp only[zs,hG,hlo]
  generalize ht:2 ^ k-1=t at hp hone hand hlob hE
  obtain⟨p1,p2,_,_⟩:=hp
  have HT:=z2w ht
  have HE:=z2w hE
  have HG:=z2w hG
  have Hlo:=z2w hlo
  clear ht hE hG hlo hc hcut
  have hxy:x<268435456∧y≤4:=by have:=zvh l 0 0 (by omega) (by decide);rw[HG.out] at this;exact this
  obtain⟨hx,hy⟩:=hxy
  simp only at hrest
  by_cases hlt:lo<t
  ·rw[HE.out,if_pos hlt]
   go_enter Tryz.func220,Tryz.ntmps220
   go_wp2_with (first
    |(go_at_call 210;refine(Xk _ _ (by omega) (by omega)).mono ?_;rintro e w' ⟨rfl,rfl⟩)
    |(go_at_call 211;refine(hone _ h1 h8).mono ?_;rintro e w' ⟨rfl,rfl⟩))
   go_ret3
   exact⟨rfl,rfl⟩
  ·have hd:decide ((lo:Int)<t)=false:=by simp;omega
   have Hlt:Hid (¬lo<t):=hlt
   have hge:t≤lo:=by omega
   clear hlt
   by_cases hz:z=0
   ·subst hz
    by_cases hx2:268435456-t<x
    ·rw[HE.out,if_neg Hlt.out,if_neg (by simp),if_pos hx2]
     go_enter Tryz.func220,Tryz.ntmps220
     go_wp2_with (first
      |(go_at_call 210;refine(Xk _ _ (by omega) (by omega)).mono ?_;rintro e w' ⟨rfl,rfl⟩)
      |(go_at_call 211;refine(hone _ h1 h8).mono ?_;rintro e w' ⟨rfl,rfl⟩)
      |(go_at_call 234;refine hrest.mono ?_;rintro e w' ⟨rfl,rfl⟩))
     go_ret3
     exact⟨rfl,rfl⟩
    ·rw[HE.out,if_neg Hlt.out,if_neg (by simp),if_neg hx2]
     have hd2:decide ((268435456:Int)-t<x)=false:=by simp;omega
     go_enter Tryz.func220,Tryz.ntmps220
     go_wp2_with (first
      |(go_at_call 210;refine(Xk _ _ (by omega) (by omega)).mono ?_;rintro e w' ⟨rfl,rfl⟩)
      |(go_at_call 211;refine(hone _ h1 h8).mono ?_;rintro e w' ⟨rfl,rfl⟩)
      |(go_at_call 234;refine hrest.mono ?_;rintro e w' ⟨rfl,rfl⟩))
     go_ret3
     exact⟨zzu (by simp) (by simp) rfl,rfl⟩
   ·rw[HE.out,if_neg Hlt.out,if_pos hz]
    have hz1:((z:Int) == 0)=false:=by rw[beq_eq_false_iff_ne];omega
    have hz2:((z:Int) != 0)=true:=by rw[bne_iff_ne];omega
    go_enter Tryz.func220,Tryz.ntmps220
    go_wp2_with (first
     |(go_at_call 210;refine(Xk _ _ (by omega) (by omega)).mono ?_;rintro e w' ⟨rfl,rfl⟩)
     |(go_at_call 211;refine(hone _ h1 h8).mono ?_;rintro e w' ⟨rfl,rfl⟩)
     |(go_at_call 234;refine hrest.mono ?_;rintro e w' ⟨rfl,rfl⟩))
    go_ret3
    exact⟨rfl,rfl⟩
end
end Go.Proofs.YtooaajnkiokpnaaGreatDoor
