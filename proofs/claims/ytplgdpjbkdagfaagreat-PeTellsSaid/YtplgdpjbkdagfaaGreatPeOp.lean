import Derived.Test.YtplgdpjbkdagfaaGreatZPeFw
import Derived.Test.YtplgdpjbkdagfaaGreatZPeTe
import Derived.Deep.Strs
import Derived.Deep.Slices
import Derived.Deep.SlicePairs
import Derived.ChangeSame
import Derived.ChangeSlices
import Derived.OpenShut
namespace Go.Proofs.YtplgdpjbkdagfaaGreat
open Go.ChangeShapes Go.WideShapes Go.ChangeAt Go.RowKit
set_option linter.unusedVariables false
set_option linter.unusedSimpArgs false
set_option maxRecDepth 100000
section
variable {H:Type} {enc:TypeId × Value->H} {W:World} {n:Nat} {v:Value} {y:DataW H × List MemPlace}
theorem Zmx (b off k:Nat):(⟨b,off,none⟩:Addr).add k=⟨b,off+k,none⟩:=by unfold Addr.add; split <;> simp_all
def strV:Value->ByteArray
 | .string s=>s
 | _=>ByteArray.empty
def intV:Value->Int
 | .int _ n=>n
 | _=>0
theorem Zh2 (h:DataW.trod enc Tryz.prog W 0 (fun _=>true) true n 27 [v]=some y): ∃(A:Option Addr) (len cap:Nat) (S:Nat->ByteArray),v= .slice A len cap/\len<=9223372036854775807/\Zip W A len S/\ ∀ j,j<len->(S j).size<=9223372036854775807:=by
 rcases Deep.open_strs Tryz.underlying27 Tryz.underlying9 (by kernel_rfl) h with⟨bm,_⟩|⟨x,l,c,m,Sx,bm,_,hl,hm,np,_,bj⟩
 ·injection bm with bm;exact⟨none,0,0,fun _=>ByteArray.empty,bm,by omega,.inl rfl,fun j hj=>by omega⟩
 ·injection bm with bm;have BC:m=c:=by simpa using np
  unfold maxLen at hm;refine⟨some x,l,c,Sx,bm,by omega,?_,fun j hj=>by have:=(bj j (by omega)).2; unfold maxLen at this; omega⟩;rcases Nat.eq_zero_or_pos l with h0|h0
  ·exact .inl h0
  ·obtain⟨b,off,spot⟩:=x;have hs:spot=none:=by simpa [Addr.add] using World.cell?_spot (bj 0 (by omega)).1
   subst hs;have c0:=(bj 0 (by omega)).1;rw[Zmx] at c0;exact .inr ⟨b,off,rfl,Js c0,fun i hi=>by have:=(bj i (by omega)).1; rw[Zmx] at this; exact this⟩
theorem Znq (h:DataW.trod enc Tryz.prog W 0 (fun _=>true) true n 22 [v]=some y): ∃(A:Option Addr) (l:List Int) (cap:Nat),v= .slice A l.length cap/\l.length<=9223372036854775807/\SlT WH 1 W A l:=by
 rcases open_ints Tryz.underlying22 Tryz.underlying3 (by kernel_rfl) h with⟨bm,_⟩|⟨x,l,c,zs,bm,_,hl,hm,hz,_,bj,De⟩
 ·injection bm with bm;exact⟨none,[],0,bm,by simp,.inl rfl⟩
 ·injection bm with bm;obtain⟨k1,k2,k3⟩:=Zk9 (w:=W) (a:=some x) (len:=l) (cap:=c) (zs:=zs) (.inr ⟨x,rfl,hl,hm,by simpa using hz,bj,De⟩);exact⟨some x,zs.take l,c,by rw[k1]; exact bm,by rw[k1]; exact k2,k3⟩
theorem Znr (h:DataW.trod enc Tryz.prog W 0 (fun _=>true) true n 29 [v]=some y): ∃(A:Option Addr) (l:List YQ) (cap:Nat),v= .slice A l.length cap/\l.length<=9223372036854775807/\SlT Wk 2 W A l:=by
 rcases Deep.open_slice_pairs Tryz.underlying29 Tryz.underlying82 (by kernel_rfl) rfl rfl (by kernel_rfl) (by kernel_rfl) h with⟨bm,_⟩|⟨x,l,c,m,k,V0,V1,D0,D1,P0,P1,bm,_,hl,hm,np,_,hx⟩
 ·injection bm with bm;exact⟨none,[],0,bm,by simp,.inl rfl⟩
 ·injection bm with bm;obtain⟨k1,k2,k3,_⟩:=Zh8 (C:=Wk) (k0:= .i64) (k1:= .i64) (fun _=>rfl) (w:=W) (a:=some x) (len:=l) (cap:=c) (zs:=(List.range m).map fun i=>(intV (V0 i),intV (V1 i))) (.inr ⟨x,rfl,hl,hm,by simpa using np,fun i hi=>by
   have ef:i<m:=by simpa using hi
   obtain⟨c0,c1,t0,t1⟩:=hx i ef;obtain⟨n0,e0,_,f0⟩:=DataW.trod_int Tryz.underlying3 t0;obtain⟨n1,e1,_,f1⟩:=DataW.trod_int Tryz.underlying3 t1;injection e0 with e0;injection e1 with e1;rw[e0] at c0;rw[e1] at c1;simp only[List.getElem_map,List.getElem_range,e0,e1,intV];exact⟨c0,c1,f0,f1⟩⟩)
  exact⟨some x,_,c,by rw[k1]; exact bm,by rw[k1]; exact k2,k3⟩
theorem Zh3 (h:DataW.trod enc Tryz.prog W 0 (fun _=>true) true n 30 [v]=some y): ∃(A:Option Addr) (l:List (ByteArray × Int)) (cap:Nat),v= .slice A l.length cap/\l.length<=9223372036854775807/\SlT bX 2 W A l/\ ∀ x∈l,x.1.size<=9223372036854775807:=by
 rcases Deep.open_slice_pairs Tryz.underlying30 Tryz.underlying80 (by kernel_rfl) rfl rfl (by kernel_rfl) (by kernel_rfl) h with⟨bm,_⟩|⟨x,l,c,m,k,V0,V1,D0,D1,P0,P1,bm,_,hl,hm,np,_,hx⟩
 ·injection bm with bm;exact⟨none,[],0,bm,by simp,.inl rfl,fun x hx=>by cases hx⟩
 ·injection bm with bm;have BC:m=c:=by simpa using np
  unfold maxLen at hm;have pv: ∀ i,i<l->W.cell? (x.add (i * 2))=some (.string (strV (V0 i)))/\W.cell? (x.add (i * 2+1))=some (.int .i64 (intV (V1 i)))/\(strV (V0 i)).size<=9223372036854775807:=fun i hi=>by
   obtain⟨c0,c1,t0,t1⟩:=hx i (by omega);obtain⟨S,e0,_,f0⟩:=DataW.trod_string Tryz.underlying9 t0;obtain⟨n1,e1,_,f1⟩:=DataW.trod_int Tryz.underlying3 t1;injection e0 with e0;injection e1 with e1;rw[e0] at c0;rw[e1] at c1;unfold maxLen at f0;simp only[e0,e1,intV,strV];exact⟨c0,c1,f0⟩
  refine⟨some x,(List.range l).map fun i=>(strV (V0 i),intV (V1 i)),c,by simpa using bm,by simp; omega,?_,fun z hz=> ?_⟩
  ·rcases Nat.eq_zero_or_pos l with h0|h0
   ·exact .inl (by rw[h0]; rfl)
   ·obtain⟨b,off,spot⟩:=x;have hs:spot=none:=by simpa [Addr.add] using World.cell?_spot (pv 0 h0).1
    subst hs;have c0:=(pv 0 h0).1;rw[Zmx] at c0;refine .inr ⟨b,off,rfl,Js c0,fun i hi j v hv=> ?_⟩;have ef:i<l:=by simpa using hi
    obtain⟨g0,g1,_⟩:=pv i ef;rw[Zmx] at g0 g1;simp only[List.getElem_map,List.getElem_range,bX] at hv;match j,hv with
    | 0,hv=>simp at hv; subst hv; exact g0
    | 1,hv=>simp at hv; subst hv; exact g1
    | j+2,hv=>simp at hv
  ·simp only[List.mem_map,List.mem_range] at hz;obtain⟨i,hi,rfl⟩:=hz;exact(pv i hi).2.2
def strO:Option Value->ByteArray
 | some (.string s)=>s
 | _=>ByteArray.empty
def intO:Option Value->Int
 | some (.int _ n)=>n
 | _=>0
def boolO:Option Value->Bool
 | some (.bool b)=>b
 | _=>false
def slO:Option Value->Option Addr × Nat × Nat
 | some (.slice a n c)=>(a,n,c)
 | _=>(none,0,0)
def YE (w:World) (x:Addr):VA where
 D:=fun i=>strO (w.cell? (x.add (i * 2)))
 M:=fun i=>(slO (w.cell? (x.add (i * 2+1)))).2.1
 SA:=fun i=>(slO (w.cell? (x.add (i * 2+1)))).1
 SC:=fun i=>(slO (w.cell? (x.add (i * 2+1)))).2.2
 T:=fun i j=>match (slO (w.cell? (x.add (i * 2+1)))).1 with
  | some y=>strO (w.cell? (y.add (j * 3)))
  | none=>ByteArray.empty
 O:=fun i j=>match (slO (w.cell? (x.add (i * 2+1)))).1 with
  | some y=>intO (w.cell? (y.add (j * 3+1)))
  | none=>0
 Y:=fun i j=>match (slO (w.cell? (x.add (i * 2+1)))).1 with
  | some y=>boolO (w.cell? (y.add (j * 3+2)))
  | none=>false
theorem Zk6:Tryz.prog.cellsOf 61=2:=by kernel_rfl
theorem Zk7:Tryz.prog.cellsOf 58=3:=by kernel_rfl
theorem Zey (h:DataW.trod enc Tryz.prog W 0 (fun _=>true) true n 28 [v]=some y): ∃(A:Option Addr) (len cap:Nat) (X:VA),v= .slice A len cap/\len<=9223372036854775807/\Zna W A len X:=by
 rcases Deep.open_slice Tryz.underlying28 h with⟨bm,_⟩|⟨x,l,c,m,k,D,Pl,bm,_,hl,hm,np,_,hx⟩
 ·injection bm with bm;exact⟨none,0,0,YE W ⟨0,0,none⟩,bm,by omega,.inl rfl⟩
 ·injection bm with bm;have BC:m=c:=by simpa using np
  have uu:c<=9223372036854775807:=by unfold maxLen at hm; exact hm
  have hc: ∀ i,i<l->W.cell? (x.add (i * 2))=some (.string ((YE W x).D i))/\W.cell? (x.add (i * 2+1))=some (.slice ((YE W x).SA i) ((YE W x).M i) ((YE W x).SC i))/\((YE W x).D i).size<=maxLen/\(YE W x).M i<=maxLen /\
   ((YE W x).M i=0\/ ∃ y,(YE W x).SA i=some y/\ ∀ j,j<(YE W x).M i->W.cell? (y.add (j * 3))=some (.string ((YE W x).T i j))/\W.cell? (y.add (j * 3+1))=some (.int .i64 ((YE W x).O i j))/\W.cell? (y.add (j * 3+2))=some (.bool ((YE W x).Y i j))/\((YE W x).T i j).size<=maxLen):=fun i hi=>by
   obtain⟨lL,h1,h2⟩:=hx i (by omega);rw[Zk6] at h1;obtain⟨_,hlen,bj⟩:=World.cells?_some h1;match lL,hlen with
   | [c0,c1],_ =>
     obtain⟨y0,y1,nn,_,_,t0,t1⟩:=trod_struct2 Tryz.underlying61 h2;have s0:Tryz.prog.cellsOf 9=1:=by kernel_rfl
     have s1:Tryz.prog.cellsOf 59=1:=by kernel_rfl
     simp only[s0,s1,List.drop_zero,List.drop_succ_cons,List.take_succ_cons,List.take_zero] at t0 t1;obtain⟨S,e0,_,hS⟩:=DataW.trod_string Tryz.underlying9 t0;injection e0 with e0;have g0:=bj 0 (by omega);have g1:=bj 1 (by omega);rw[Deep.add_add] at g0 g1;have GF:W.cell? (x.add (i * 2))=some (.string S):=by rw[<-e0]; simpa using g0
     rcases Deep.open_slice Tryz.underlying59 t1 with⟨bm,_⟩|⟨x',l',c',m',k',D',OU,bm,_,BD,yl,Df,_,K4⟩
     ·injection bm with bm;have tc:W.cell? (x.add (i * 2+1))=some (.slice none 0 0):=by rw[<-bm]; simpa using g1
      simp only[YE,GF,tc,strO,slO];exact⟨trivial,trivial,hS,by unfold maxLen; omega,.inl trivial⟩
     ·injection bm with bm;have KW:m'=c':=by simpa using Df
      have tc:W.cell? (x.add (i * 2+1))=some (.slice (some x') l' c'):=by rw[<-bm]; simpa using g1
      simp only[YE,GF,tc,strO,slO];refine⟨trivial,trivial,hS,by omega,.inr ⟨x',rfl,fun j hj=> ?_⟩⟩;obtain⟨K5,h3,h4⟩:=K4 j (by omega);rw[Zk7] at h3;obtain⟨_,iq,mv⟩:=World.cells?_some h3;match K5,iq with
      | [d0,d1,d2],_ =>
        obtain⟨z0,z1,z2,n3,_,_,u0,u1,u2⟩:=Deep.trod_struct3 Tryz.underlying58 h4;have q1:Tryz.prog.cellsOf 3=1:=by kernel_rfl
        have q2:Tryz.prog.cellsOf 4=1:=by kernel_rfl
        simp only[s0,q1,q2,List.drop_zero,List.drop_succ_cons,List.take_succ_cons,List.take_zero] at u0 u1 u2;obtain⟨S2,e2,_,ym⟩:=DataW.trod_string Tryz.underlying9 u0;obtain⟨n2,e3,_,_⟩:=DataW.trod_int Tryz.underlying3 u1;obtain⟨b2,e4,_⟩:=DataW.trod_bool Tryz.underlying4 u2;injection e2 with e2;injection e3 with e3;injection e4 with e4;have f0:=mv 0 (by omega);have f1:=mv 1 (by omega);have f2:=mv 2 (by omega);rw[Deep.add_add] at f0 f1 f2;have KX:W.cell? (x'.add (j * 3))=some (.string S2):=by rw[<-e2]; simpa using f0
        have KY:W.cell? (x'.add (j * 3+1))=some (.int .i64 n2):=by rw[<-e3]; simpa using f1
        have KZ:W.cell? (x'.add (j * 3+2))=some (.bool b2):=by rw[<-e4]; simpa using f2
        simp only[KX,KY,KZ,intO,boolO];exact⟨trivial,trivial,trivial,ym⟩
  refine⟨some x,l,c,YE W x,bm,by omega,?_⟩;generalize YE W x=X at hc ⊢;rcases Nat.eq_zero_or_pos l with h0|h0
  ·exact .inl h0
  ·obtain⟨b,off,spot⟩:=x;have fR:spot=none:=by simpa [Addr.add] using World.cell?_spot (hc 0 (by omega)).1
   subst fR;have c0:=(hc 0 (by omega)).1;rw[Zmx] at c0;refine .inr ⟨b,off,rfl,Js c0,fun i hi=> ?_⟩;obtain⟨h1,h2,h3,h4,h5⟩:=hc i hi;rw[Zmx] at h1 h2;unfold maxLen at h3 h4;refine⟨h1,h2,h3,h4,?_⟩;rcases h5 with h5|⟨y,hy,h5⟩
   ·exact .inl h5
   ·rcases Nat.eq_zero_or_pos (X.M i) with h6|h6
    ·exact .inl h6
    ·obtain⟨b',mw,nr⟩:=y;have fR:nr=none:=by simpa [Addr.add] using World.cell?_spot (h5 0 h6).1
     subst fR;have c1:=(h5 0 h6).1;rw[Zmx] at c1;refine .inr ⟨b',mw,hy,Js c1,fun j hj=> ?_⟩;obtain⟨k1,k2,k3,k4⟩:=h5 j hj;rw[Zmx] at k1 k2 k3;unfold maxLen at k4;exact⟨k1,k2,k3,k4⟩
theorem op_parts {r:Reach} {b0:Nat} {d:DataW H} {p:List MemPlace} (hv:Value.okWide Tryz.prog W r b0 32 v) (h:DataW.Trod enc Tryz.prog W 0 (fun _=>true) true 32 v d p) :
 ∃ q:PIn,v= .agg q.cells/\q.Is W/\q.Lens:=by
 obtain⟨v0,v1,v2,v3,v4,v5,v6,v7,v8,y0,y1,y2,y3,y4,y5,y6,y7,y8,n,rfl,_,_,h0,h1,h2,h3,h4,h5,h6,h7,h8⟩:=Zh7 Tryz.underlying32 (by kernel_rfl) (by kernel_rfl) hv h;obtain⟨a0,e0,_,_⟩:=DataW.trod_int Tryz.underlying3 h0;obtain⟨a7,e7,_,_⟩:=DataW.trod_int Tryz.underlying3 h7;injection e0 with e0;injection e7 with e7;obtain⟨fA,fn,fc,fS,e1,f1,f2,f3⟩:=Zh2 h1;obtain⟨nA,nn,nc,nS,e2,n1,n2,n3⟩:=Zh2 h2;obtain⟨iA,im,ic,iX,e3,i1,i2⟩:=Zey h3;obtain⟨lA,lm,lc,lX,e4,l1,l2⟩:=Zey h4;obtain⟨rA,rL,rc,e5,r1,r2⟩:=Znr h5;obtain⟨bA,bL,bc,e6,b1,b2,b3⟩:=Zh3 h6;obtain⟨cA,cL,cc,e8,c1,c2⟩:=Znq h8;subst e0 e1 e2 e3 e4 e5 e6 e7 e8;exact⟨{ wh:=a0,fA:=fA,fn:=fn,fc:=fc,fS:=fS,nA:=nA,nn:=nn,nc:=nc,nS:=nS,iA:=iA,im:=im,ic:=ic,iX:=iX,lA:=lA,lm:=lm,lc:=lc,lX:=lX,rA:=rA,rL:=rL,rc:=rc,bA:=bA,bL:=bL,bc:=bc,ix:=a7,cA:=cA,cL:=cL,cc:=cc },rfl,⟨f2,n2,i2,l2,r2,b2,c2⟩,⟨f1,n1,i1,l1,r1,b1,c1,f3,n3,b3⟩⟩
end
end Go.Proofs.YtplgdpjbkdagfaaGreat
